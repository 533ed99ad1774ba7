/- The laws' small functions: which of n things a raw number speaks of; numbers' texts; names. -/
import Derived.Test.YthlnjnmomnpnpaaGreatDoorYMem
import Derived.Test.YthlnjnmomnpnpaaGreatDoorTPick
import Derived.Laws.IdiomStrings
namespace Go.Proofs.YthlnjnmomnpnpaaGreatDoor
open Go.RowKit Tk Sy
set_option linter.unusedVariables false
theorem pick_neg {c : Int} (n : Int) (h : c < 0) : -((c + 1).tmod n) = pick c n := by
  rw [← Int.neg_tmod, Int.tmod_eq_emod_of_nonneg (by omega)]
  unfold pick
  rw [if_pos h]
theorem pick_pos {c : Int} (n : Int) (h : ¬ c < 0) : c % n = pick c n := by
  unfold pick
  rw [if_neg h]
theorem pick_any (c n : Int) (h1 : -9223372036854775808 ≤ c) (h2 : c ≤ 9223372036854775807) (h3 : 1 ≤ n) (w : World) : Calls Tryz.prog 114 #[.int .i64 c, .int .i64 n] w fun e w' => e = .returned (.int .i64 (pick c n)) ∧ w = w' := by
  by_cases hc : c < 0
  · have ht := Lib.hid (pick_neg n hc)
    go_enter Tryz.func114, Tryz.ntmps114
    go_wp2
    go_ret
    exact ⟨ri ht.out, rfl⟩
  · have ht := Lib.hid (pick_pos n hc)
    go_enter Tryz.func114, Tryz.ntmps114
    go_wp2
    go_ret
    exact ⟨ri ht.out, rfl⟩
abbrev inInt (c : Int) : Prop := inI c
theorem pick_lit {c n r : Int} (h : pick c n = r) (hc : inInt c) (h3 : 1 ≤ n) (w : World) : Calls Tryz.prog 114 #[.int .i64 c, .int .i64 n] w fun e w' => e = .returned (.int .i64 r) ∧ w = w' := by
  subst h
  exact pick_any c n hc.1 hc.2 h3 w
theorem one_byte (b : Nat) (W : World) (c : UInt8) (x : Int) (hx : x = (c.toNat : Int)) (hc : W.cell? ⟨b, 0, none⟩ = some (.int .u8 x)) :
    (convert 70 9 (.slice (some ⟨b, 0, none⟩) 1 1)).run Tryz.prog W = .ok (.string (str [c])) W := by
  refine run_convert_bytes_back (P := Tryz.prog) W 70 9 5 ⟨b, 0, none⟩ 1 [c] Tryz.underlying70 Tryz.underlying5 Tryz.underlying9 fun j hj => ?_
  have hj0 : j = 0 := by simpa using hj
  subst hj0
  rw [hx] at hc
  exact hc
theorem dig_int (n : Nat) : 48 + (n : Int) % 10 = ((dig (n % 10)).toNat : Int) := by
  rw [dig_nat (Nat.mod_lt _ (by omega))]
  omega
theorem rs {a b : ByteArray} (h : a = b) : Ending.returned (.string a) = .returned (.string b) := by rw [h]
set_option maxRecDepth 100000 in
set_option maxHeartbeats 2000000 in
theorem decimal_in : ∀ (n : Nat) (x : Int) (hx : x = n) (hb : n ≤ 9223372036854775807) (w : World), Calls Tryz.prog 115 #[.int .i64 x] w fun e w' => e = .returned (.string (str (dec n))) ∧ Bel w w' := by
  intro n
  induction n using Nat.strongRecOn with
  | ind n ih =>
    intro x hx hb w
    subst hx
    have hcv := one_byte w.heap.size (w.alloc (.cells #[.int .u8 (48 + (n : Int) % 10)] 5)) (dig (n % 10)) _ (dig_int n) (World.cell?_alloc_new _ _ _ 0)
    by_cases h : n < 10
    · have he : dec n = [dig (n % 10)] := by rw [dec_small h, Nat.mod_eq_of_lt h]
      rw [he]
      clear he ih
      generalize dig (n % 10) = d at hcv
      go_enter Tryz.func115, Tryz.ntmps115
      go_wp2_with fail
      go_ret
      exact ⟨rfl, (Bel.refl _).alloc _ _⟩
    · have hi := ih (n / 10) (by omega) ((n : Int) / 10) (by omega) (by omega)
      have he : str (dec (n / 10)) ++ str [dig (n % 10)] = str (dec n) := by rw [str_app, dec_big h]
      have hsz : (str (dec (n / 10))).size + (str [dig (n % 10)]).size ≤ 9223372036854775807 := by
        have := dec_len 18 (n / 10) (by omega)
        rw [str_size, str_size, List.length_singleton]
        omega
      generalize dec (n / 10) = t at hi he hsz
      generalize dec n = u at he
      generalize dig (n % 10) = d at hcv he hsz
      have HI := Lib.hid hi
      have HE := Lib.hid he
      clear hi he ih
      go_enter Tryz.func115, Tryz.ntmps115
      go_wp2_with (go_at_call 115; ((with_reducible refine (HI.out _).mono ?_); rintro e W1 ⟨rfl, hb1⟩; have HB1 := Lib.hid hb1; clear hb1))
      go_ret
      exact ⟨rs HE.out, ((Bel.refl _).alloc _ _).trans HB1.out⟩
theorem text_cell {l : List Bs} {k : Nat} (h : k < l.length) (W : World) (t : TypeId) {n : Nat} (hn : W.heap.size = n) : (W.alloc (.cells (l.map fun s => Value.string (str s)).toArray t)).cell? ⟨n, k, none⟩ = some (.string (str (l.getD k []))) := by
  subst hn
  rw [cell_of_heap (heap_alloc_new W _), List.getElem?_toArray, List.getElem?_map, List.getElem?_eq_getElem h, List.getD_eq_getElem?_getD, List.getElem?_eq_getElem h]
  rfl
set_option maxRecDepth 100000 in
set_option maxHeartbeats 2000000 in
theorem var_any (n : Int) (hn : inInt n) (w : World) : Calls Tryz.prog 92 #[.int .i64 n] w fun e w' => e = .returned (.string (str (varV n))) ∧ Bel w w' := by
  obtain ⟨k, hk, hp, hv⟩ : ∃ k : Nat, k < 300 ∧ pick n 300 = k ∧ varV n = if k < 10 then names.getD (k % 10) [] else names.getD (k % 10) [] ++ dec k := by
    have hb := pick_bd n (n := 300) (by omega)
    obtain ⟨k, hk⟩ := Int.eq_ofNat_of_zero_le hb.1
    refine ⟨k, by omega, hk, ?_⟩
    unfold varV
    simp only [hk, Int.toNat_natCast]
  rw [hv]
  have hc : (w.alloc (.cells #[.string ⟨#[120]⟩, .string ⟨#[121]⟩, .string ⟨#[110]⟩, .string ⟨#[95, 97]⟩, .string ⟨#[66, 50]⟩, .string ⟨#[105, 102, 115]⟩, .string ⟨#[104, 97, 114, 116]⟩, .string ⟨#[108, 111, 99, 107, 49]⟩, .string ⟨#[88, 95, 121, 95, 90]⟩, .string ⟨#[72, 97, 108, 116]⟩] 9)).cell? ⟨w.heap.size, k % 10, none⟩ = some (.string (str (names.getD (k % 10) []))) := text_cell (l := names) (by show k % 10 < 10; omega) w _ rfl
  have hm : (names.getD (k % 10) []).length ≤ 5 := (names_ok _ (getD_mem (by show k % 10 < 10; omega))).2.2.1
  generalize names.getD (k % 10) [] = nm at hc hm ⊢
  have i1 : 0 ≤ (k : Int) % 10 := by omega
  have i2 : (k : Int) % 10 < 10 := by omega
  have HP := Lib.hid hp
  clear hp hv
  by_cases h : k < 10
  · rw [if_pos h]
    go_enter Tryz.func92, Tryz.ntmps92
    go_wp2_with (go_at_call 114; ((with_reducible refine (pick_lit HP.out hn (by omega) _).mono ?_); rintro e w' ⟨rfl, rfl⟩))
    go_ret
    exact ⟨rfl, (Bel.refl _).alloc _ _⟩
  · rw [if_neg h]
    have hsz : (str nm).size + (str (dec k)).size ≤ 9223372036854775807 := by
      have := dec_len 2 k (by omega)
      rw [str_size, str_size]
      omega
    have HD := Lib.hid (decimal_in k (k : Int) rfl (by omega))
    have HE := Lib.hid (str_app nm (dec k))
    generalize dec k = d at hsz HD HE ⊢
    go_enter Tryz.func92, Tryz.ntmps92
    go_wp2_with (first | (go_at_call 114; ((with_reducible refine (pick_lit HP.out hn (by omega) _).mono ?_); rintro e w' ⟨rfl, rfl⟩)) | (go_at_call 115; ((with_reducible refine (HD.out _).mono ?_); rintro e W1 ⟨rfl, hb1⟩; have HB1 := Lib.hid hb1; clear hb1)))
    go_ret
    exact ⟨rs HE.out, ((Bel.refl _).alloc _ _).trans HB1.out⟩
theorem var_lit {n : Int} {t : ByteArray} (h : str (varV n) = t) (hn : inInt n) (w : World) : Calls Tryz.prog 92 #[.int .i64 n] w fun e w' => e = .returned (.string t) ∧ Bel w w' := by
  subst h
  exact var_any n hn w
theorem pick6_any (c n : Int) (h1 : -9223372036854775808 ≤ c) (h2 : c ≤ 9223372036854775807) (h3 : 1 ≤ n) (w : World) : Calls Tryz.prog 54 #[.int .i64 c, .int .i64 n] w fun e w' => e = .returned (.int .i64 (pick c n)) ∧ w = w' := by
  by_cases hc : c < 0
  · have ht := Lib.hid (pick_neg n hc)
    go_enter Tryz.func54, Tryz.ntmps54
    go_wp2
    go_ret
    exact ⟨ri ht.out, rfl⟩
  · have ht := Lib.hid (pick_pos n hc)
    go_enter Tryz.func54, Tryz.ntmps54
    go_wp2
    go_ret
    exact ⟨ri ht.out, rfl⟩
theorem pick6_lit {c n r : Int} (h : pick c n = r) (hc : inInt c) (h3 : 1 ≤ n) (w : World) : Calls Tryz.prog 54 #[.int .i64 c, .int .i64 n] w fun e w' => e = .returned (.int .i64 r) ∧ w = w' := by
  subst h
  exact pick6_any c n hc.1 hc.2 h3 w
end Go.Proofs.YthlnjnmomnpnpaaGreatDoor
