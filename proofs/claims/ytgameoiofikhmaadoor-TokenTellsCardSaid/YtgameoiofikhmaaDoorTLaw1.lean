/- The laws' own small functions: which of n things a raw number speaks of; numbers' texts. -/
import Derived.Test.YtgameoiofikhmaaDoorTScan
import Derived.Laws.IdiomStrings
namespace Go.Proofs.YtgameoiofikhmaaDoor
open Go.RowKit Tk
set_option linter.unusedVariables false
theorem pick_neg {c : Int} (n : Int) (h : c < 0) : -((c + 1).tmod n) = pick c n := by
  rw [← Int.neg_tmod, Int.tmod_eq_emod_of_nonneg (by omega)]
  unfold pick
  rw [if_pos h]
theorem pick_pos {c : Int} (n : Int) (h : ¬ c < 0) : c % n = pick c n := by
  unfold pick
  rw [if_neg h]
theorem pick_any (c n : Int) (h1 : -9223372036854775808 ≤ c) (h2 : c ≤ 9223372036854775807) (h3 : 1 ≤ n) (w : World) : Calls Tryd.prog 17 #[.int .i64 c, .int .i64 n] w fun e w' => e = .returned (.int .i64 (pick c n)) ∧ w = w' := by
  by_cases hc : c < 0
  · have ht := Lib.hid (pick_neg n hc)
    go_enter Tryd.func17, Tryd.ntmps17
    go_wp2
    go_ret
    exact ⟨ri ht.out, rfl⟩
  · have ht := Lib.hid (pick_pos n hc)
    go_enter Tryd.func17, Tryd.ntmps17
    go_wp2
    go_ret
    exact ⟨ri ht.out, rfl⟩
def inInt (c : Int) : Prop := -9223372036854775808 ≤ c ∧ c ≤ 9223372036854775807
theorem pick_lit {c n r : Int} (h : pick c n = r) (hc : inInt c) (h3 : 1 ≤ n) (w : World) : Calls Tryd.prog 17 #[.int .i64 c, .int .i64 n] w fun e w' => e = .returned (.int .i64 r) ∧ w = w' := by
  subst h
  exact pick_any c n hc.1 hc.2 h3 w
theorem one_byte (b : Nat) (W : World) (c : UInt8) (x : Int) (hx : x = (c.toNat : Int)) (hc : W.cell? ⟨b, 0, none⟩ = some (.int .u8 x)) :
    (convert 45 9 (.slice (some ⟨b, 0, none⟩) 1 1)).run Tryd.prog W = .ok (.string (str [c])) W := by
  refine run_convert_bytes_back (P := Tryd.prog) W 45 9 5 ⟨b, 0, none⟩ 1 [c] Tryd.underlying45 Tryd.underlying5 Tryd.underlying9 fun j hj => ?_
  have hj0 : j = 0 := by simpa using hj
  subst hj0
  rw [hx] at hc
  exact hc
theorem dig_int (n : Nat) : 48 + (n : Int) % 10 = ((dig (n % 10)).toNat : Int) := by
  rw [dig_nat (Nat.mod_lt _ (by omega))]
  omega
theorem rs {a b : ByteArray} (h : a = b) : Ending.returned (.string a) = .returned (.string b) := by rw [h]
set_option maxHeartbeats 1000000 in
theorem decimal_in : ∀ (n : Nat) (x : Int) (hx : x = n) (hb : n ≤ 9223372036854775807) (w : World), Calls Tryd.prog 24 #[.int .i64 x] w fun e w' => e = .returned (.string (str (dec n))) ∧ Bel w w' := by
  intro n
  induction n using Nat.strongRecOn with
  | ind n ih =>
    intro x hx hb w
    subst hx
    have hcv := one_byte w.heap.size (w.alloc (.cells #[.int .u8 (48 + (n : Int) % 10)] 5)) (dig (n % 10)) _ (dig_int n) (World.cell?_alloc_new _ _ _ 0)
    by_cases h : n < 10
    · have he : dec n = [dig (n % 10)] := by rw [dec_small h, Nat.mod_eq_of_lt h]
      rw [he]
      clear he ih
      generalize dig (n % 10) = d at hcv
      go_enter Tryd.func24, Tryd.ntmps24
      go_wp2_with fail
      go_ret
      exact ⟨rfl, (Bel.refl _).alloc _ _⟩
    · have hi := ih (n / 10) (by omega) ((n : Int) / 10) (by omega) (by omega)
      have he : str (dec (n / 10)) ++ str [dig (n % 10)] = str (dec n) := by rw [str_app, dec_big h]
      have hsz : (str (dec (n / 10))).size + (str [dig (n % 10)]).size ≤ 9223372036854775807 := by
        have := dec_len 18 (n / 10) (by omega)
        rw [str_size, str_size, List.length_singleton]
        omega
      generalize dec (n / 10) = t at hi he hsz
      generalize dec n = u at he
      generalize dig (n % 10) = d at hcv he hsz
      have HI := Lib.hid hi
      have HE := Lib.hid he
      clear hi he ih
      go_enter Tryd.func24, Tryd.ntmps24
      go_wp2_with (go_at_call 24; ((with_reducible refine (HI.out _).mono ?_); rintro e W1 ⟨rfl, hb1⟩; have HB1 := Lib.hid hb1; clear hb1))
      go_ret
      exact ⟨rs HE.out, ((Bel.refl _).alloc _ _).trans HB1.out⟩
theorem hex_slice (n : Nat) (w : World) : (Instr.slice 9 (.string ⟨#[48, 49, 50, 51, 52, 53, 54, 55, 56, 57, 97, 98, 99, 100, 101, 102]⟩) (some (.int .i64 ((n : Int) % 16))) (some (.int .i64 ((n : Int) % 16 + 1))) none).run Tryd.prog w = .ok (.string (str [hexd (n % 16)])) w := by
  have e : (n : Int) % 16 = ((n % 16 : Nat) : Int) := by omega
  rw [e]
  have hm : n % 16 < 16 := Nat.mod_lt _ (by omega)
  generalize n % 16 = m at hm
  match m, hm with
  | 0, _ => show _ = _; kernel_rfl
  | 1, _ => show _ = _; kernel_rfl
  | 2, _ => show _ = _; kernel_rfl
  | 3, _ => show _ = _; kernel_rfl
  | 4, _ => show _ = _; kernel_rfl
  | 5, _ => show _ = _; kernel_rfl
  | 6, _ => show _ = _; kernel_rfl
  | 7, _ => show _ = _; kernel_rfl
  | 8, _ => show _ = _; kernel_rfl
  | 9, _ => show _ = _; kernel_rfl
  | 10, _ => show _ = _; kernel_rfl
  | 11, _ => show _ = _; kernel_rfl
  | 12, _ => show _ = _; kernel_rfl
  | 13, _ => show _ = _; kernel_rfl
  | 14, _ => show _ = _; kernel_rfl
  | 15, _ => show _ = _; kernel_rfl
  | m + 16, hm => exact absurd hm (by omega)
set_option maxHeartbeats 1000000 in
theorem hex_in : ∀ (n : Nat) (x : Int) (hx : x = n) (hb : n ≤ 9223372036854775807) (w : World), Calls Tryd.prog 25 #[.int .i64 x] w fun e w' => e = .returned (.string (str (hex n))) ∧ w = w' := by
  intro n
  induction n using Nat.strongRecOn with
  | ind n ih =>
    intro x hx hb w
    subst hx
    have hsl := hex_slice n
    by_cases h : n < 16
    · have he : hex n = [hexd (n % 16)] := by rw [hex_small h, Nat.mod_eq_of_lt h]
      rw [he]
      clear he ih
      generalize hexd (n % 16) = d at hsl
      go_enter Tryd.func25, Tryd.ntmps25
      go_wp2_with fail
      go_ret
      exact ⟨rfl, rfl⟩
    · have hi := ih (n / 16) (by omega) ((n : Int) / 16) (by omega) (by omega)
      have he : str (hex (n / 16)) ++ str [hexd (n % 16)] = str (hex n) := by rw [str_app, hex_big h]
      have hsz : (str (hex (n / 16))).size + (str [hexd (n % 16)]).size ≤ 9223372036854775807 := by
        have := hex_len 18 (n / 16) (by omega)
        rw [str_size, str_size, List.length_singleton]
        omega
      generalize hex (n / 16) = t at hi he hsz
      generalize hex n = u at he
      generalize hexd (n % 16) = d at hsl he hsz
      have HI := Lib.hid hi
      have HE := Lib.hid he
      clear hi he ih
      go_enter Tryd.func25, Tryd.ntmps25
      go_wp2_with (go_at_call 25; ((with_reducible refine (HI.out _).mono ?_); rintro e w' ⟨rfl, rfl⟩))
      go_ret
      exact ⟨rs HE.out, rfl⟩
end Go.Proofs.YtgameoiofikhmaaDoor
