/- The library's ParseUint to the base 16, at 32 bits, and what package image makes of it. -/
import Derived.Test.YtbfmlbcjggplgaaGreatDoorIBase
import Derived.Test.YtbfmlbcjggplgaaGreatDoorIShelf
import Derived.Test.YtbfmlbcjggplgaaGreatDoorINam
import Derived.Lib.Walk
import Derived.Lib.ConvBytes
import Derived.Lib.ParseIntBMem
import Derived.Laws.Strings3
import Derived.Laws.Closers25
import Derived.Laws.Closers25b
import Derived.BigCall
import Derived.BigGuard
namespace Go.Proofs.YtbfmlbcjggplgaaGreatDoor
open Go.RowKit Im
set_option linter.unusedVariables false
def hexN (n : Nat) : Nat := if 48 ≤ n ∧ n ≤ 57 then n - 48 else if 97 ≤ n ∧ n ≤ 102 then n - 87 else if 65 ≤ n ∧ n ≤ 70 then n - 55 else 99
def lowOk (n : Nat) : Bool := decide (48 ≤ n ∧ n ≤ 57) || decide (97 ≤ bits .or .u8 (n : Int) 32 ∧ bits .or .u8 (n : Int) 32 ≤ 102 ∧ (hexN n : Int) = bits .or .u8 (n : Int) 32 - 87) || decide (hexN n = 99 ∧ (bits .or .u8 (n : Int) 32 < 97 ∨ 122 < bits .or .u8 (n : Int) 32 ∨ 103 ≤ bits .or .u8 (n : Int) 32 ∧ bits .or .u8 (n : Int) 32 ≤ 122))
set_option maxRecDepth 100000 in
theorem low_all : (List.range 256).all lowOk = true := by kernel_rfl
theorem low_cases (c : UInt8) (h : ¬ (48 ≤ c.toNat ∧ c.toNat ≤ 57)) : (97 ≤ bits .or .u8 (c.toNat : Int) 32 ∧ bits .or .u8 (c.toNat : Int) 32 ≤ 102 ∧ (hexV c : Int) = bits .or .u8 (c.toNat : Int) 32 - 87) ∨ (hexV c = 99 ∧ (bits .or .u8 (c.toNat : Int) 32 < 97 ∨ 122 < bits .or .u8 (c.toNat : Int) 32 ∨ 103 ≤ bits .or .u8 (c.toNat : Int) 32 ∧ bits .or .u8 (c.toNat : Int) 32 ≤ 122)) := by
  have h1 := List.all_eq_true.1 low_all c.toNat (List.mem_range.2 c.toNat_lt)
  unfold lowOk at h1
  rw [decide_eq_false h, Bool.false_or, Bool.or_eq_true, decide_eq_true_eq, decide_eq_true_eq] at h1
  exact h1
theorem lower_lit {c r : Int} (h : bits .or .u8 c 32 = r) (w : World) : Calls Tryz.prog 101 #[.int .u8 c] w fun e w' => e = .returned (.int .u8 r) ∧ w = w' := by
  subst h
  exact (Tryz.internal_strconv_lower c w).mono fun e w' h => ⟨h.1, h.2.symm⟩
set_option maxHeartbeats 8000000 in
set_option maxRecDepth 100000 in
theorem uint16_any (t : ByteArray) (hne : t.size ≠ 0) (hmax : t.size ≤ 9223372036854775806) (w : World) :
    Calls Tryz.prog 77 #[.string t, .int .i64 16, .int .i64 32] w fun e w' => e = .returned (Lib.uintTupleM 116 4294967295 (parse16 0 t.data.toList)) ∧ w' = Lib.bytesWorld w 5 t := by
  have hemp : t.toList.isEmpty = false := by
    rw [← decide_eq_emptyBytes]
    exact decide_eq_false (fun h => hne (by rw [h]; rfl))
  have hcv := Lib.run_convert_string_bytes (P := Tryz.prog) w 9 61 5 t (u := .string) Tryz.underlying9 Tryz.underlying61 Tryz.underlying5
  have hB : ∀ j, j < t.size → (Lib.bytesWorld w 5 t).cell? ⟨w.heap.size, j, none⟩ = some (.int .u8 (t.data.toList.getD j 0).toNat) := fun j hj => Lib.bytesWorld_cell w 5 t j hj
  obtain ⟨W1, hW1⟩ : ∃ W1, W1 = Lib.bytesWorld w 5 t := ⟨_, rfl⟩
  rw [← hW1] at hcv hB ⊢
  clear hW1
  obtain ⟨bs, hL⟩ : ∃ bs, bs = t.data.toList := ⟨_, rfl⟩
  have hLn : bs.length = t.size := by rw [hL, Lib.size_eq]
  rw [← hL] at hB ⊢
  clear hL
  have hmv : IntKind.u64.wrap (IntKind.u64.wrap 4294967296 - 1) = 4294967295 := by
    rw [IntKind.wrap_u64, IntKind.wrap_u64]
    decide
  go_enter Tryz.func77, Tryz.ntmps77
  go_wp2
  go_loop [12, 13, 101] (fun vu vn vi => ∃ (k acc : Nat) (a : Int), vu = .bool false ∧ vn = .int .u64 a ∧ vi = .int .i64 k ∧ k ≤ t.size ∧ Hid (a = (acc : Int) ∧ acc ≤ 4294967295 ∧ parse16 0 bs = parse16 acc (bs.drop k)))
    (fun _ _ vi => t.size - (intOf vi).toNat)
  case atStart => exact ⟨0, 0, 0, rfl, rfl, rfl, by omega, rfl, by omega, rfl⟩
  case round =>
    obtain ⟨k, acc, a, rfl, rfl, rfl, hk, hh⟩ := hrel
    obtain ⟨ha, hacc, hdec⟩ := hh.out
    clear hh
    have a0 : 0 ≤ a := by omega
    have a1 : a ≤ 4294967295 := by omega
    by_cases hkn : k < t.size
    · have hc := hB k hkn
      have hdrop : bs.drop k = bs[k]'(by omega) :: bs.drop (k + 1) := List.drop_eq_getElem_cons (by omega)
      have hget : bs.getD k 0 = bs[k]'(by omega) := by simp [List.getD, List.getElem?_eq_getElem (show k < bs.length by omega)]
      rw [hdrop] at hdec
      rw [hget] at hc
      generalize bs[k]'(by omega) = c at hc hdec
      have hc256 : c.toNat < 256 := c.toNat_lt
      clear hB hdrop hget
      by_cases hdig : 48 ≤ c.toNat ∧ c.toNat ≤ 57
      · have hx : hexV c = c.toNat - 48 := by unfold hexV; rw [if_pos hdig]
        obtain ⟨hd0, hd1⟩ := hdig
        by_cases hov : 4294967295 < acc * 16 + (c.toNat - 48)
        · have hF : parse16 acc (c :: bs.drop (k + 1)) = .range := by unfold parse16; rw [hx, if_pos (by omega), if_pos hov]
          rw [hF] at hdec
          have iov : 4294967295 < a * 16 + ((c.toNat : Int) - 48) := by omega
          have HD := Lib.hid hdec
          clear hacc hF hov ha hx hdec
          go_wp2
          go_ret2
          exact ⟨by rw [HD.out]; rfl, rfl⟩
        · have hF : parse16 acc (c :: bs.drop (k + 1)) = parse16 (acc * 16 + (c.toNat - 48)) (bs.drop (k + 1)) := by rw [parse16, hx, if_pos (by omega), if_neg hov]
          have HN : Hid (a * 16 + ((c.toNat : Int) - 48) = ((acc * 16 + (c.toNat - 48) : Nat) : Int) ∧ acc * 16 + (c.toNat - 48) ≤ 4294967295 ∧ parse16 0 bs = parse16 (acc * 16 + (c.toNat - 48)) (bs.drop (k + 1))) := Lib.hid ⟨by omega, by omega, hdec.trans hF⟩
          have iov : a * 16 + ((c.toNat : Int) - 48) ≤ 4294967295 := by omega
          clear hacc hF hov hdec ha hx
          go_wp2
          refine ⟨⟨k + 1, acc * 16 + (c.toNat - 48), a * 16 + ((c.toNat : Int) - 48), rfl, (by first | rfl | (congr 1; omega)), (by first | rfl | (congr 1; omega)), by omega, HN⟩, by simp [intOf]; omega⟩
      · have hlo := low_cases c hdig
        by_cases h95 : c.toNat = 95
        · have hx : hexV c = 99 := by unfold hexV; rw [h95]; decide
          have hF : parse16 acc (c :: bs.drop (k + 1)) = Lib.NumEnd.syntax := by rw [parse16, hx]; rfl
          rw [hF] at hdec
          have HD := Lib.hid hdec
          have hlow : bits .or .u8 95 32 = 127 := by kernel_rfl
          have HL := Lib.hid hlow
          clear hacc hF ha hx hdec hlow hlo
          rw [h95] at hc
          clear h95 hdig
          go_wp2_with (go_at_call 101; ((with_reducible refine (lower_lit HL.out _).mono ?_); rintro e w' ⟨rfl, rfl⟩))
          go_ret2
          exact ⟨by rw [HD.out]; rfl, rfl⟩
        have b95 : ((c.toNat : Int) == 95) = false := by rw [beq_eq_false_iff_ne]; omega
        obtain ⟨l, hl⟩ : ∃ l, bits .or .u8 (c.toNat : Int) 32 = l := ⟨_, rfl⟩
        rw [hl] at hlo
        have HL := Lib.hid hl
        have hl0 := bits_lo_u8 .or (c.toNat : Int) 32
        have hl1 := bits_hi_u8 .or (c.toNat : Int) 32
        rw [hl] at hl0 hl1
        clear hl h95
        rcases hlo with ⟨l0, l1, hx⟩ | ⟨hx, hlo⟩
        · by_cases hov : 4294967295 < acc * 16 + hexV c
          · have hF : parse16 acc (c :: bs.drop (k + 1)) = .range := by unfold parse16; rw [if_pos (by omega), if_pos hov]
            rw [hF] at hdec
            have iov : 4294967295 < a * 16 + (l - 97 + 10) := by omega
            have HD := Lib.hid hdec
            clear hacc hF hov ha hx hdec
            go_wp2_with (go_at_call 101; ((with_reducible refine (lower_lit HL.out _).mono ?_); rintro e w' ⟨rfl, rfl⟩))
            all_goals go_ret2
            all_goals exact ⟨by rw [HD.out]; rfl, rfl⟩
          · have hF : parse16 acc (c :: bs.drop (k + 1)) = parse16 (acc * 16 + hexV c) (bs.drop (k + 1)) := by rw [parse16, if_pos (by omega), if_neg hov]
            have HN : Hid (a * 16 + (l - 97 + 10) = ((acc * 16 + hexV c : Nat) : Int) ∧ acc * 16 + hexV c ≤ 4294967295 ∧ parse16 0 bs = parse16 (acc * 16 + hexV c) (bs.drop (k + 1))) := Lib.hid ⟨by omega, by omega, hdec.trans hF⟩
            have iov : a * 16 + (l - 97 + 10) ≤ 4294967295 := by omega
            clear hacc hF hov hdec ha hx
            go_wp2_with (go_at_call 101; ((with_reducible refine (lower_lit HL.out _).mono ?_); rintro e w' ⟨rfl, rfl⟩))
            all_goals refine ⟨⟨k + 1, acc * 16 + hexV c, a * 16 + (l - 97 + 10), rfl, (by first | rfl | (congr 1; omega)), (by first | rfl | (congr 1; omega)), by omega, HN⟩, by simp [intOf]; omega⟩
        · have hF : parse16 acc (c :: bs.drop (k + 1)) = Lib.NumEnd.syntax := by rw [parse16, hx]; rfl
          rw [hF] at hdec
          have HD := Lib.hid hdec
          clear hacc hF ha hx hdec
          rcases hlo with h | h | ⟨h, h'⟩
          all_goals
            go_wp2_with (go_at_call 101; ((with_reducible refine (lower_lit HL.out _).mono ?_); rintro e w' ⟨rfl, rfl⟩))
            all_goals go_ret2
            all_goals exact ⟨by rw [HD.out]; rfl, rfl⟩
    · have hkk : k = t.size := by omega
      subst hkk
      have hF : parse16 acc (bs.drop t.size) = .ok acc := by rw [List.drop_eq_nil_of_le (by omega)]; rfl
      rw [hF] at hdec
      subst ha
      have HD := Lib.hid hdec
      clear hacc hF a0 a1 hdec
      go_wp2
      go_ret2
      exact ⟨by rw [HD.out]; rfl, rfl⟩
set_option maxRecDepth 100000 in
theorem uint16_end {t : ByteArray} {r : Lib.NumEnd Nat} (h : (if t.data.toList = [] then Lib.NumEnd.syntax else parse16 0 t.data.toList) = r) (hmax : t.size ≤ 9223372036854775806) (w : World) :
    Calls Tryz.prog 77 #[.string t, .int .i64 16, .int .i64 32] w fun e w' => e = .returned (Lib.uintTupleM 116 4294967295 r) ∧ Bel w w' := by
  by_cases h0 : t.size = 0
  · obtain rfl := empty_of_size h0
    rw [if_pos (by rfl)] at h
    subst h
    clear h0 hmax
    go_enter Tryz.func77, Tryz.ntmps77
    go_wp2
    go_ret2
    exact ⟨rfl, Bel.refl _⟩
  · rw [if_neg (fun c => h0 (by rw [Lib.size_eq, c]; rfl))] at h
    subst h
    refine (uint16_any t h0 hmax w).mono ?_
    rintro e w' ⟨rfl, rfl⟩
    exact ⟨rfl, Lib.bytesWorld_below _ _ _⟩
end Go.Proofs.YtbfmlbcjggplgaaGreatDoor
