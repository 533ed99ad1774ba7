/- The document's own answer for layer 5: the sign at a text's head. -/
import Derived.Test.YtgameoiofikhmaaDoorTRefC
namespace Go.Proofs.YtgameoiofikhmaaDoor
open Go.RowKit Tk
set_option linter.unusedVariables false
def signV (s : Bs) : Bs := (signAt s).getD []
theorem pre_extract (s : ByteArray) (g : Bs) : ((s.extract 0 g.length).toList == (str g).toList) = (decide (g.length ≤ s.size) && g.isPrefixOf s.data.toList || (decide (s.size < g.length) && (s.data.toList == g))) := by
  rw [ByteArray.toList_eq, ByteArray.toList_eq, extract_head_data, str_data, Bool.eq_iff_iff, beq_iff_eq]
  by_cases h : g.length ≤ s.size
  · rw [decide_eq_true h, decide_eq_false (by omega), Bool.true_and, Bool.false_and, Bool.or_false, List.isPrefixOf_iff_prefix]
    constructor
    · intro e
      rw [← e]
      exact List.take_prefix _ _
    · intro e
      exact (List.prefix_iff_eq_take.1 e).symm
  · rw [decide_eq_false h, decide_eq_true (by omega), Bool.true_and, Bool.false_and, Bool.false_or, beq_iff_eq, List.take_of_length_le (by rw [size_list]; omega)]
theorem pre_long (s : ByteArray) (g : Bs) (h : s.size < g.length) : g.isPrefixOf s.data.toList = false := by
  cases hp : g.isPrefixOf s.data.toList with
  | false => rfl
  | true =>
    have := (List.isPrefixOf_iff_prefix.1 hp).length_le
    rw [size_list] at this
    omega
set_option maxRecDepth 100000 in
set_option maxHeartbeats 8000000 in
theorem rsign_any (s : ByteArray) (hs : s.size ≤ maxLen) (w : World) : Calls Tryd.prog 36 #[.string s] w fun e w' => e = .returned (.string (str (signV s.data.toList))) ∧ Bel w w' := by
  unfold maxLen at hs
  obtain ⟨r, hr⟩ : ∃ r, signAt s.data.toList = r := ⟨_, rfl⟩
  have he : signV s.data.toList = r.getD [] := by unfold signV; rw [hr]
  rw [he]
  have HR : Hid (((signs.drop 0).find? fun g => g.isPrefixOf s.data.toList) = r) := Lib.hid hr
  have hcells : ∀ k : Nat, k < 25 → (w.alloc (.cells #[.string ⟨#[61, 61]⟩, .string ⟨#[33, 61]⟩, .string ⟨#[60, 60]⟩, .string ⟨#[62, 62]⟩, .string ⟨#[60, 46]⟩, .string ⟨#[43]⟩, .string ⟨#[45]⟩, .string ⟨#[42]⟩, .string ⟨#[47]⟩, .string ⟨#[37]⟩, .string ⟨#[38]⟩, .string ⟨#[124]⟩, .string ⟨#[94]⟩, .string ⟨#[60]⟩, .string ⟨#[61]⟩, .string ⟨#[33]⟩, .string ⟨#[126]⟩, .string ⟨#[40]⟩, .string ⟨#[41]⟩, .string ⟨#[123]⟩, .string ⟨#[125]⟩, .string ⟨#[91]⟩, .string ⟨#[93]⟩, .string ⟨#[59]⟩, .string ⟨#[46]⟩] 9)).cell? ⟨w.heap.size, k, none⟩ = some (.string (str (signs.getD k []))) := fun k hk => text_cell (l := signs) hk w _ rfl
  have HC := Lib.hid hcells
  have HB : Hid (Bel w (w.alloc (.cells #[.string ⟨#[61, 61]⟩, .string ⟨#[33, 61]⟩, .string ⟨#[60, 60]⟩, .string ⟨#[62, 62]⟩, .string ⟨#[60, 46]⟩, .string ⟨#[43]⟩, .string ⟨#[45]⟩, .string ⟨#[42]⟩, .string ⟨#[47]⟩, .string ⟨#[37]⟩, .string ⟨#[38]⟩, .string ⟨#[124]⟩, .string ⟨#[94]⟩, .string ⟨#[60]⟩, .string ⟨#[61]⟩, .string ⟨#[33]⟩, .string ⟨#[126]⟩, .string ⟨#[40]⟩, .string ⟨#[41]⟩, .string ⟨#[123]⟩, .string ⟨#[125]⟩, .string ⟨#[91]⟩, .string ⟨#[93]⟩, .string ⟨#[59]⟩, .string ⟨#[46]⟩] 9))) := Lib.hid ((Bel.refl _).alloc _ _)
  clear hr hcells he
  go_enter Tryd.func36, Tryd.ntmps36
  go_wp2
  generalize w.alloc (.cells #[.string ⟨#[61, 61]⟩, .string ⟨#[33, 61]⟩, .string ⟨#[60, 60]⟩, .string ⟨#[62, 62]⟩, .string ⟨#[60, 46]⟩, .string ⟨#[43]⟩, .string ⟨#[45]⟩, .string ⟨#[42]⟩, .string ⟨#[47]⟩, .string ⟨#[37]⟩, .string ⟨#[38]⟩, .string ⟨#[124]⟩, .string ⟨#[94]⟩, .string ⟨#[60]⟩, .string ⟨#[61]⟩, .string ⟨#[33]⟩, .string ⟨#[126]⟩, .string ⟨#[40]⟩, .string ⟨#[41]⟩, .string ⟨#[123]⟩, .string ⟨#[125]⟩, .string ⟨#[91]⟩, .string ⟨#[93]⟩, .string ⟨#[59]⟩, .string ⟨#[46]⟩] 9) = W0 at HC HB ⊢
  generalize w.heap.size = G at HC ⊢
  go_loopw [4] (fun i wr => ∃ k q : Nat, k ≤ 25 ∧ i = .int .i64 k ∧ wr = W0.drewN q ∧ Hid (((signs.drop k).find? fun g => g.isPrefixOf s.data.toList) = r)) (fun i _ => 25 - (intOf i).toNat)
  case atStart => exact ⟨0, 0, by omega, rfl, rfl, HR⟩
  case round =>
    obtain ⟨k, q, hk, rfl, rfl, HK⟩ := hrel
    by_cases hlt : k < 25
    · have hst := signAt_from s.data.toList k hlt
      rw [HK.out] at hst
      have hc := HC.out k hlt
      have hlt2 : (k : Int) < 25 := by omega
      have hgm : signs.getD k [] ∈ signs := getD_mem hlt
      have hgl := (sign_short _ hgm).2
      generalize signs.getD k [] = g at hst hc hgl
      have hpe := pre_extract s g
      have hpl := pre_long s g
      by_cases hle : g.length ≤ s.size
      · rw [decide_eq_true hle, decide_eq_false (by omega), Bool.true_and, Bool.false_and, Bool.or_false] at hpe
        have hsz : (str g).size ≤ s.size := hle
        have hsz2 : ((str g).size : Int) ≤ s.size := by omega
        cases hp : g.isPrefixOf s.data.toList with
        | true =>
          rw [hp] at hpe
          rw [if_pos hp] at hst
          subst hst
          have hpe2 : ((s.extract 0 (str g).size).toList == (str g).toList) = true := hpe
          clear hpe hpl hp hgm hle
          go_wp2
          go_quiet (fail)
          go_wp2
          go_ret
          exact ⟨rfl, HB.out.drewN _⟩
        | false =>
          rw [hp] at hpe
          rw [if_neg (by rw [hp]; exact Bool.false_ne_true)] at hst
          have HS := Lib.hid hst.symm
          have hpe2 : ((s.extract 0 (str g).size).toList == (str g).toList) = false := hpe
          clear hpe hpl hp hgm hle hst
          go_wp2
          go_quiet (fail)
          go_wp2
          exact ⟨⟨k + 1, q + nq, by omega, by go_num, rfl, HS⟩, by simp [intOf]; omega⟩
      · have hp := hpl (by omega)
        rw [if_neg (by rw [hp]; exact Bool.false_ne_true)] at hst
        have HS := Lib.hid hst.symm
        have hsz2 : ¬ ((str g).size : Int) ≤ s.size := by rw [str_size]; omega
        have hsz3 : ¬ (str g).size ≤ s.size := by rw [str_size]; omega
        clear hpe hpl hp hgm hle hst
        go_wp2
        go_quiet (fail)
        go_wp2
        exact ⟨⟨k + 1, q + nq, by omega, by go_num, rfl, HS⟩, by simp [intOf]; omega⟩
    · obtain rfl : k = 25 := by omega
      obtain rfl : none = r := HK.out
      go_wp2
      go_ret
      exact ⟨rfl, HB.out.drewN _⟩
end Go.Proofs.YtgameoiofikhmaaDoor
