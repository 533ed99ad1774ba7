/- What the library's functions that package token calls answer: IndexByte, Count of a line feed, CutPrefix, Clone. -/
import Derived.Test.YtgameoiofikhmaaDoorTName
import Derived.Lib.Bytealg
import Derived.Lib.Strings
import Derived.Laws.Externs
namespace Go.Proofs.YtgameoiofikhmaaDoor
open Go.RowKit Tk
set_option linter.unusedVariables false
theorem ext_index (s : ByteArray) (c : Int) (w : World) : (callFunc 50 #[.string s, .int .u8 c]).run Tryd.prog w = .ok (.value (.int .i64 (Lib.indexByte s.data.toList c.toNat.toUInt8))) w := by
  rw [run_callFunc_extern Tryd.func50 (by kernel_rfl) (by kernel_rfl) (by kernel_rfl) (e := Extern.BytealgIndexByte.indexByte) (by kernel_rfl), Lib.run_indexByteString]
  rfl
theorem ext_count (s : ByteArray) (c : Int) (w : World) : (callFunc 42 #[.string s, .int .u8 c]).run Tryd.prog w = .ok (.value (.int .i64 (Lib.countByte s.data.toList c.toNat.toUInt8 : Nat))) w := by
  rw [run_callFunc_extern Tryd.func42 (by kernel_rfl) (by kernel_rfl) (by kernel_rfl) (e := Extern.BytealgCount.count) (by kernel_rfl), Lib.run_countString]
  rfl
theorem liteIndex_lit {s : ByteArray} {c r : Int} (h : Lib.indexByte s.data.toList c.toNat.toUInt8 = r) (w : World) : Calls Tryd.prog 46 #[.string s, .int .u8 c] w fun e w' => e = .returned (.int .i64 r) ∧ w = w' := by
  have hE := ext_index s c
  rw [h] at hE
  clear h
  go_enter Tryd.func46, Tryd.ntmps46
  go_wp2
  go_ret
  exact ⟨rfl, rfl⟩
theorem index_lit {s : ByteArray} {c r : Int} (h : Lib.indexByte s.data.toList c.toNat.toUInt8 = r) (w : World) : Calls Tryd.prog 40 #[.string s, .int .u8 c] w fun e w' => e = .returned (.int .i64 r) ∧ w = w' := by
  have HE := Lib.hid h
  clear h
  go_enter Tryd.func40, Tryd.ntmps40
  go_wp2_with (go_at_call 46; ((with_reducible refine (liteIndex_lit HE.out _).mono ?_); rintro e w' ⟨rfl, rfl⟩))
  go_ret
  exact ⟨rfl, rfl⟩
set_option maxHeartbeats 1000000 in
theorem count_lit {s : ByteArray} {r : Nat} (h : Lib.countByte s.data.toList 10 = r) (w : World) : Calls Tryd.prog 32 #[.string s, .string ⟨#[10]⟩] w fun e w' => e = .returned (.int .i64 r) ∧ w = w' := by
  have hE : ∀ (q : 0 < (⟨#[10]⟩ : ByteArray).size) (w : World), (callFunc 42 #[.string s, .int .u8 (((⟨#[10]⟩ : ByteArray)[0]'q).toNat : Int)]).run Tryd.prog w = .ok (.value (.int .i64 r)) w := fun q w => by
    rw [ext_count]
    show Result.ok (Next.value (.int .i64 (Lib.countByte s.data.toList 10 : Nat))) w = _
    rw [h]
  clear h
  go_enter Tryd.func32, Tryd.ntmps32
  go_wp2
  go_ret
  exact ⟨rfl, rfl⟩
set_option maxHeartbeats 1000000 in
theorem hasPrefix_any (s p : ByteArray) (w : World) : Calls Tryd.prog 49 #[.string s, .string p] w fun e w' => e = .returned (.bool (p.data.toList.isPrefixOf s.data.toList)) ∧ w = w' := by
  have hr := Lib.hasPrefix_raw s p
  unfold Lib.hasPrefix at hr
  rw [← hr]
  clear hr
  by_cases h1 : p.size ≤ s.size
  · rw [decide_eq_true h1, Bool.true_and]
    cases ht : ((s.extract 0 p.size).toList == p.toList) with
    | true =>
      go_enter Tryd.func49, Tryd.ntmps49
      go_wp2
      go_ret
      exact ⟨rfl, rfl⟩
    | false =>
      go_enter Tryd.func49, Tryd.ntmps49
      go_wp2
      go_ret
      exact ⟨rfl, rfl⟩
  · rw [decide_eq_false h1, Bool.false_and]
    go_enter Tryd.func49, Tryd.ntmps49
    go_wp2
    go_ret
    exact ⟨rfl, rfl⟩
theorem hasPrefix_lit {s p : ByteArray} {b : Bool} (h : p.data.toList.isPrefixOf s.data.toList = b) (w : World) : Calls Tryd.prog 49 #[.string s, .string p] w fun e w' => e = .returned (.bool b) ∧ w = w' := by
  subst h
  exact hasPrefix_any s p w
/-- what is behind a text's head -/
def cutV (s p : ByteArray) : ByteArray := if p.data.toList.isPrefixOf s.data.toList then str (s.data.toList.drop p.size) else s
theorem extract_str (s : ByteArray) (a b : Nat) : s.extract a b = str ((s.data.toList.drop a).take (b - a)) := Lib.extract_eq s a b
theorem extract_end (s : ByteArray) (a : Nat) : s.extract a s.size = str (s.data.toList.drop a) := by
  rw [extract_str, List.take_of_length_le]
  rw [List.length_drop, size_list]
  exact Nat.le_refl _
theorem extract_head (s : ByteArray) (b : Nat) : s.extract 0 b = str (s.data.toList.take b) := by
  rw [extract_str, List.drop_zero, Nat.sub_zero]
set_option maxHeartbeats 1000000 in
theorem liteCut_lit {s p t : ByteArray} {b : Bool} (h : p.data.toList.isPrefixOf s.data.toList = b) (ht : cutV s p = t) (w : World) : Calls Tryd.prog 45 #[.string s, .string p] w fun e w' => e = .returned (.tuple #[.string t, .bool b]) ∧ w = w' := by
  have HB := Lib.hid h
  unfold cutV at ht
  cases b with
  | true =>
    rw [if_pos h] at ht
    have hle : p.size ≤ s.size := by
      have := (List.isPrefixOf_iff_prefix.1 h).length_le
      rw [size_list, size_list] at this
      exact this
    rw [← extract_end] at ht
    have HT := Lib.hid ht
    clear h ht
    go_enter Tryd.func45, Tryd.ntmps45
    go_wp2_with (go_at_call 49; ((with_reducible refine (hasPrefix_lit HB.out _).mono ?_); rintro e w' ⟨rfl, rfl⟩))
    go_ret2
    exact ⟨by rw [← HT.out]; rfl, rfl⟩
  | false =>
    rw [if_neg (by rw [h]; exact Bool.false_ne_true)] at ht
    subst ht
    clear h
    go_enter Tryd.func45, Tryd.ntmps45
    go_wp2_with (go_at_call 49; ((with_reducible refine (hasPrefix_lit HB.out _).mono ?_); rintro e w' ⟨rfl, rfl⟩))
    go_ret2
    exact ⟨rfl, rfl⟩
theorem cut_lit {s p t : ByteArray} {b : Bool} (h : p.data.toList.isPrefixOf s.data.toList = b) (ht : cutV s p = t) (w : World) : Calls Tryd.prog 34 #[.string s, .string p] w fun e w' => e = .returned (.tuple #[.string t, .bool b]) ∧ w = w' := by
  have HB := Lib.hid h
  have HT := Lib.hid ht
  clear h ht
  go_enter Tryd.func34, Tryd.ntmps34
  go_wp2_with (go_at_call 45; ((with_reducible refine (liteCut_lit HB.out HT.out _).mono ?_); rintro e w' ⟨rfl, rfl⟩))
  go_ret2
  exact ⟨rfl, rfl⟩
end Go.Proofs.YtgameoiofikhmaaDoor
