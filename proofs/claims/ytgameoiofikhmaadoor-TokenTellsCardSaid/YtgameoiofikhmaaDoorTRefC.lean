/- The document's own answer for layer 5: which texts are numbers. -/
import Derived.Test.YtgameoiofikhmaaDoorTRefB
namespace Go.Proofs.YtgameoiofikhmaaDoor
open Go.RowKit Tk
set_option linter.unusedVariables false
theorem take_two (s : ByteArray) : ((s.extract 0 2).toList == [48, 120]) = decide (s.data.toList.take 2 = [48, 120]) := by
  rw [ByteArray.toList_eq, extract_head_data, Bool.eq_iff_iff, beq_iff_eq, decide_eq_true_eq]
theorem numIs_of {s : Bs} {o : Option Nat} {n : Nat} {b : Bool} (h : numIs s n b) (ho : number s = o) : n = o.getD 0 ∧ b = o.isSome := by
  unfold numIs at h
  rw [ho] at h
  exact ⟨h.1.symm, h.2.symm⟩
theorem lim_cases (o : Option Nat) : (o = none ∧ lim o = none ∧ vOf o = -1) ∨ ∃ m : Nat, o = some m ∧ vOf o = m ∧ ((m ≤ 4294967295 ∧ lim o = some m) ∨ (4294967295 < m ∧ lim o = none)) := by
  cases o with
  | none => exact Or.inl ⟨rfl, rfl, rfl⟩
  | some m =>
    refine Or.inr ⟨m, rfl, rfl, ?_⟩
    by_cases h : m ≤ 4294967295
    · exact Or.inl ⟨h, if_pos h⟩
    · exact Or.inr ⟨by omega, if_neg h⟩
set_option maxRecDepth 100000 in
set_option maxHeartbeats 4000000 in
theorem rnumber_hex {s : ByteArray} {n : Nat} {b : Bool} (h : numIs s.data.toList n b) (h2 : 2 < s.size) (h10 : s.size ≤ 10) (hp : s.data.toList.take 2 = [48, 120]) (w : World) :
    Calls Tryd.prog 22 #[.string s] w fun e w' => e = .returned (.tuple #[.int .i64 n, .bool b]) ∧ w = w' := by
  obtain ⟨rfl, rfl⟩ := numIs_of h (number_hexCase (by rw [size_list]; exact h2) (by rw [size_list]; exact h10) hp)
  have htk : ((s.extract 0 2).toList == [48, 120]) = true := by rw [take_two]; exact decide_eq_true hp
  have hsz : Hid ((s.extract 2 s.size).size ≤ 10) := Lib.hid (by rw [extract_end_size]; omega)
  have HV : Hid (vOf (val 16 (s.extract 2 s.size).data.toList 0) = vOf (val 16 (s.data.toList.drop 2) 0)) := Lib.hid (by rw [extract_end_data])
  clear h hp
  generalize val 16 (s.data.toList.drop 2) 0 = o at HV ⊢
  rcases lim_cases o with ⟨_, hl, hv⟩ | ⟨m, _, hv, ⟨hm, hl⟩ | ⟨hm, hl⟩⟩
  · rw [hl]
    rw [hv] at HV
    clear hl hv
    go_enter Tryd.func22, Tryd.ntmps22
    go_wp2_with (go_at_call 38; ((with_reducible refine (rvalue16 HV.out hsz.out _).mono ?_); rintro e w2 ⟨rfl, rfl⟩))
    go_ret2
    exact ⟨rfl, rfl⟩
  · rw [hl]
    rw [hv] at HV
    have hm3 : ¬ (m : Int) < 0 := by omega
    clear hl hv
    go_enter Tryd.func22, Tryd.ntmps22
    go_wp2_with (go_at_call 38; ((with_reducible refine (rvalue16 HV.out hsz.out _).mono ?_); rintro e w2 ⟨rfl, rfl⟩))
    go_ret2
    exact ⟨rfl, rfl⟩
  · rw [hl]
    rw [hv] at HV
    have hm2 : 4294967296 ≤ (m : Int) := by omega
    have hm3 : ¬ (m : Int) < 0 := by omega
    clear hl hv
    go_enter Tryd.func22, Tryd.ntmps22
    go_wp2_with (go_at_call 38; ((with_reducible refine (rvalue16 HV.out hsz.out _).mono ?_); rintro e w2 ⟨rfl, rfl⟩))
    go_ret2
    exact ⟨rfl, rfl⟩
set_option maxRecDepth 100000 in
set_option maxHeartbeats 4000000 in
theorem rnumber_dec {s : ByteArray} {n : Nat} {b : Bool} (h : numIs s.data.toList n b) (hp : s.data.toList.take 2 ≠ [48, 120]) (hc : s.size = 1 ∨ (1 < s.size ∧ s.size ≤ 10 ∧ s.data.toList.head? ≠ some 48)) (w : World) :
    Calls Tryd.prog 22 #[.string s] w fun e w' => e = .returned (.tuple #[.int .i64 n, .bool b]) ∧ w = w' := by
  obtain ⟨rfl, rfl⟩ := numIs_of h (number_decCase hp (by rw [size_list]; exact hc))
  have hp1 : 0 < s.size := by omega
  have hsz : Hid (s.size ≤ 10) := Lib.hid (by omega)
  obtain ⟨o, ho⟩ : ∃ o, val 10 s.data.toList 0 = o := ⟨_, rfl⟩
  have HV : Hid (vOf (val 10 s.data.toList 0) = vOf o) := Lib.hid (by rw [ho])
  rw [ho]
  have hh := head_get s hp1
  have htk : ((s.extract 0 2).toList == [48, 120]) = false := by rw [take_two]; exact decide_eq_false hp
  have hway : s.size = 1 ∨ (1 < s.size ∧ s.size ≤ 10 ∧ ((s[0].toNat : Int) != 48) = true ∧ ((s[0].toNat : Int) == 48) = false) := by
    rcases hc with hc | ⟨h1, h2, h3⟩
    · exact Or.inl hc
    · have h4 : s[0].toNat ≠ 48 := fun c => h3 (by rw [hh, show s[0] = 48 from UInt8.toNat_inj.1 c])
      exact Or.inr ⟨h1, h2, by simp; omega, by simp; omega⟩
  clear h hp hh hc ho
  rcases lim_cases o with ⟨_, hl, hv⟩ | ⟨m, _, hv, ⟨hm, hl⟩ | ⟨hm, hl⟩⟩
  · rw [hl]
    rw [hv] at HV
    clear hl hv
    rcases hway with h1 | ⟨h1, h2, h3, h4⟩
    all_goals
      go_enter Tryd.func22, Tryd.ntmps22
      go_wp2_with (go_at_call 38; ((with_reducible refine (rvalue10 HV.out hsz.out _).mono ?_); rintro e w2 ⟨rfl, rfl⟩))
      all_goals go_ret2
      all_goals exact ⟨rfl, rfl⟩
  · rw [hl]
    rw [hv] at HV
    have hm3 : ¬ (m : Int) < 0 := by omega
    clear hl hv
    rcases hway with h1 | ⟨h1, h2, h3, h4⟩
    all_goals
      go_enter Tryd.func22, Tryd.ntmps22
      go_wp2_with (go_at_call 38; ((with_reducible refine (rvalue10 HV.out hsz.out _).mono ?_); rintro e w2 ⟨rfl, rfl⟩))
      all_goals go_ret2
      all_goals exact ⟨rfl, rfl⟩
  · rw [hl]
    rw [hv] at HV
    have hm2 : 4294967296 ≤ (m : Int) := by omega
    have hm3 : ¬ (m : Int) < 0 := by omega
    clear hl hv
    rcases hway with h1 | ⟨h1, h2, h3, h4⟩
    all_goals
      go_enter Tryd.func22, Tryd.ntmps22
      go_wp2_with (go_at_call 38; ((with_reducible refine (rvalue10 HV.out hsz.out _).mono ?_); rintro e w2 ⟨rfl, rfl⟩))
      all_goals go_ret2
      all_goals exact ⟨rfl, rfl⟩
set_option maxRecDepth 100000 in
set_option maxHeartbeats 4000000 in
theorem rnumber_none {s : ByteArray} {n : Nat} {b : Bool} (h : numIs s.data.toList n b) (hs : s.size ≤ maxLen) (hc : (s.data.toList.take 2 = [48, 120] ∧ (s.size ≤ 2 ∨ 10 < s.size)) ∨ (s.data.toList.take 2 ≠ [48, 120] ∧ (s.size = 0 ∨ 10 < s.size ∨ (1 < s.size ∧ s.data.toList.head? = some 48)))) (w : World) :
    Calls Tryd.prog 22 #[.string s] w fun e w' => e = .returned (.tuple #[.int .i64 n, .bool b]) ∧ w = w' := by
  have hnone : number s.data.toList = none := by
    rcases hc with ⟨h1, h2⟩ | ⟨h1, h2⟩
    · exact number_hexNone h1 (by rw [size_list]; exact h2)
    · exact number_decNone h1 (by rw [size_list]; exact h2)
  obtain ⟨rfl, rfl⟩ := numIs_of h hnone
  unfold maxLen at hs
  clear h hnone
  by_cases hbig : 10 < s.size
  · clear hc
    go_enter Tryd.func22, Tryd.ntmps22
    go_wp2
    all_goals go_ret2
    all_goals exact ⟨rfl, rfl⟩
  · by_cases h0 : s.size = 0
    · obtain rfl := empty_of_size h0
      clear hc h0 hs hbig
      go_enter Tryd.func22, Tryd.ntmps22
      go_wp2
      all_goals go_ret2
      all_goals exact ⟨rfl, rfl⟩
    · have hp0 : 0 < s.size := by omega
      have hh : s.data.toList.head? = some 48 := by
        rcases hc with ⟨h1, h2⟩ | ⟨h1, h2⟩
        · exact (head_of_take h1).1
        · rcases h2 with h2 | h2 | h2
          · omega
          · omega
          · exact h2.2
      have h1s : 1 < s.size := by
        rcases hc with ⟨h1, h2⟩ | ⟨h1, h2⟩
        · have := (head_of_take h1).2
          rw [size_list] at this
          omega
        · omega
      have h48 : s[0].toNat = 48 := by
        rw [head_get s hp0, Option.some.injEq] at hh
        rw [hh]
        rfl
      have htk : 2 < s.size → ((s.extract 0 2).toList == [48, 120]) = false := by
        intro h2
        rw [take_two]
        refine decide_eq_false ?_
        rcases hc with ⟨h1, h3⟩ | ⟨h1, h3⟩
        · omega
        · exact h1
      have b1 : ((s[0].toNat : Int) != 48) = false := by simp [h48]
      have b2 : ((s[0].toNat : Int) == 48) = true := by simp [h48]
      clear h48 hh hc h0
      by_cases h2 : 2 < s.size
      · have ht := htk h2
        clear htk
        go_enter Tryd.func22, Tryd.ntmps22
        go_wp2
        all_goals go_ret2
        all_goals exact ⟨rfl, rfl⟩
      · clear htk
        go_enter Tryd.func22, Tryd.ntmps22
        go_wp2
        all_goals go_ret2
        all_goals exact ⟨rfl, rfl⟩
theorem rnumber_lit {s : ByteArray} {n : Nat} {b : Bool} (h : numIs s.data.toList n b) (hs : s.size ≤ maxLen) (w : World) :
    Calls Tryd.prog 22 #[.string s] w fun e w' => e = .returned (.tuple #[.int .i64 n, .bool b]) ∧ w = w' := by
  by_cases hp : s.data.toList.take 2 = [48, 120]
  · by_cases h2 : 2 < s.size ∧ s.size ≤ 10
    · exact rnumber_hex h h2.1 h2.2 hp w
    · exact rnumber_none h hs (Or.inl ⟨hp, by omega⟩) w
  · by_cases hc : s.size = 1 ∨ (1 < s.size ∧ s.size ≤ 10 ∧ s.data.toList.head? ≠ some 48)
    · exact rnumber_dec h hp hc w
    · refine rnumber_none h hs (Or.inr ⟨hp, ?_⟩) w
      by_cases h48 : s.data.toList.head? = some 48
      · by_cases h1 : 1 < s.size
        · exact Or.inr (Or.inr ⟨h1, h48⟩)
        · exact Or.inl (by omega)
      · have : ¬ (1 < s.size ∧ s.size ≤ 10) := fun c => hc (Or.inr ⟨c.1, c.2, h48⟩)
        omega
end Go.Proofs.YtgameoiofikhmaaDoor
