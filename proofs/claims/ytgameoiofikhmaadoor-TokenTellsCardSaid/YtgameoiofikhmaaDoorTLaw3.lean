/- The laws' blanks, line feeds and comparisons of tokens. -/
import Derived.Test.YtgameoiofikhmaaDoorTLaw2
import Derived.Deep.QuietTactic
import Derived.BigQuiet
namespace Go.Proofs.YtgameoiofikhmaaDoor
open Go.RowKit Tk
set_option linter.unusedVariables false
theorem Bel.drewN {w w' : World} (h : Bel w w') (n : Nat) : Bel w (w'.drewN n) := Bel.trans h ⟨rfl, rfl, rfl, Nat.le_refl _, fun _ _ => rfl⟩
/-- a row of ints lies at a place, if there are any -/
def IntsQ (w : World) (p : Option Addr) (l : List Int) : Prop := ∀ (j : Nat) (i : Int), l[j]? = some i → inInt i ∧ ∃ b o, p = some ⟨b, o, none⟩ ∧ b < w.heap.size ∧ w.cell? ⟨b, o + j, none⟩ = some (.int .i64 i)
theorem IntsQ.bel {w w' : World} {p : Option Addr} {l : List Int} (h : IntsQ w p l) (hb : Bel w w') : IntsQ w' p l := fun j i hj => by
  obtain ⟨h0, b, o, h1, h2, h3⟩ := h j i hj
  exact ⟨h0, b, o, h1, Nat.lt_of_lt_of_le h2 hb.size, (hb.cell (p := ⟨b, o + j, none⟩) h2).trans h3⟩
set_option maxHeartbeats 2000000 in
theorem blank_any (L : List Int) (p : Option Addr) (c i : Nat) (w : World) (hQ : IntsQ w p L) (hL : L.length ≤ 9223372036854775807) (hi : i ≤ 1000) :
    Calls Tryd.prog 12 #[.slice p L.length c, .int .i64 (i : Int)] w fun e w' => e = .returned (.string (str (blankV L i))) ∧ Bel w w' := by
  by_cases h : L.length ≤ i
  · have e : blankV L i = [32] := by
      unfold blankV
      rw [List.getElem?_eq_none h]
    rw [e]
    clear e
    have hd : (L.length : Int) ≤ (i : Int) := by omega
    go_enter Tryd.func12, Tryd.ntmps12
    go_wp2_with fail
    go_ret
    exact ⟨rfl, Bel.refl _⟩
  · obtain ⟨x, hx⟩ : ∃ x, L[i]? = some x := ⟨_, List.getElem?_eq_getElem (by omega)⟩
    obtain ⟨hin, b, o, rfl, hlt, hc0⟩ := hQ i x hx
    have e : blankV L i = blanks.getD (pick x 8).toNat [] := by
      unfold blankV
      rw [hx]
    obtain ⟨k, hk8, hkp⟩ := pick_nat_of x 8 (by omega)
    have hkp' : pick x 8 = (k : Int) := hkp
    rw [e, hkp', Int.toNat_natCast]
    have hc : (w.alloc (.cells #[.string ⟨#[32]⟩, .string ⟨#[32, 32]⟩, .string ⟨#[9]⟩, .string ⟨#[32, 9, 32]⟩, .string ⟨#[10]⟩, .string ⟨#[32, 10, 10]⟩, .string ⟨#[32, 35, 32, 120, 32, 61, 32, 49, 59, 10]⟩, .string ⟨#[35, 10, 9]⟩] 9)).cell? ⟨w.heap.size, k, none⟩ = some (.string (str (blanks.getD k []))) := text_cell (l := blanks) hk8 w _ rfl
    have hc1 : (w.alloc (.cells #[.string ⟨#[32]⟩, .string ⟨#[32, 32]⟩, .string ⟨#[9]⟩, .string ⟨#[32, 9, 32]⟩, .string ⟨#[10]⟩, .string ⟨#[32, 10, 10]⟩, .string ⟨#[32, 35, 32, 120, 32, 61, 32, 49, 59, 10]⟩, .string ⟨#[35, 10, 9]⟩] 9)).cell? ⟨b, o + i, none⟩ = some (.int .i64 x) := (World.cell?_alloc_lt _ _ ⟨b, o + i, none⟩ hlt).trans hc0
    generalize blanks.getD k [] = nm at hc ⊢
    have HP : Hid (pick x 8 = (k : Int)) := Lib.hid hkp
    have hd : ¬ (L.length : Int) ≤ (i : Int) := by omega
    have hd2 : (i : Int) < L.length := by omega
    have hk : (k : Int) < 8 := by omega
    clear e hkp hkp' hQ hx
    go_enter Tryd.func12, Tryd.ntmps12
    go_wp2_with (go_at_call 17; ((with_reducible refine (pick_lit HP.out hin (by omega) _).mono ?_); rintro e w' ⟨rfl, rfl⟩))
    go_ret
    exact ⟨rfl, (Bel.refl _).alloc _ _⟩
theorem blank_lit {L : List Int} {p : Option Addr} {c i : Nat} {w : World} {t : ByteArray} (h : str (blankV L i) = t) (hQ : IntsQ w p L) (hL : L.length ≤ 9223372036854775807) (hi : i ≤ 1000) :
    Calls Tryd.prog 12 #[.slice p L.length c, .int .i64 (i : Int)] w fun e w' => e = .returned (.string t) ∧ Bel w w' := by
  subst h
  exact blank_any L p c i w hQ hL hi
def feedsTo (s : ByteArray) (k : Nat) : Nat := feeds (s.data.toList.take k)
theorem feedsTo_succ (s : ByteArray) (k : Nat) (h : k < s.size) : feedsTo s (k + 1) = feedsTo s k + if s[k].toNat = 10 then 1 else 0 := by
  unfold feedsTo
  rw [List.take_succ_eq_append_getElem (by simpa using h), feeds_app]
  congr 1
  show (([s.data.toList[k]'(by simpa using h)] : Bs).filter fun x => decide (x.toNat = 10)).length = _
  rw [List.filter_cons]
  show (if decide (s[k].toNat = 10) = true then _ else _ : Bs).length = _
  by_cases h10 : s[k].toNat = 10
  · rw [if_pos (decide_eq_true h10), if_pos h10]; rfl
  · rw [if_neg (by simpa using h10), if_neg h10]; rfl
theorem feedsTo_le (s : ByteArray) (k : Nat) : feedsTo s k ≤ k := by
  unfold feedsTo
  have := feeds_le (s.data.toList.take k)
  rw [List.length_take] at this
  omega
set_option maxHeartbeats 1000000 in
theorem feeds_lit {s : ByteArray} {r : Nat} (h : feeds s.data.toList = r) (hs : s.size ≤ maxLen) (w : World) :
    Calls Tryd.prog 23 #[.string s] w fun e w' => e = .returned (.int .i64 r) ∧ w = w' := by
  unfold maxLen at hs
  have hr : feedsTo s s.size = r := by
    rw [← h]
    unfold feedsTo
    rw [List.take_of_length_le (by rw [size_list]; exact Nat.le_refl _)]
  have HR := Lib.hid hr
  clear h hr
  go_enter Tryd.func23, Tryd.ntmps23
  go_wp2
  go_loop [3, 4] (fun n i => ∃ k m : Nat, k ≤ s.size ∧ m ≤ k ∧ n = .int .i64 m ∧ i = .int .i64 k ∧ Hid (feedsTo s k = m)) (fun _ i => s.size - (intOf i).toNat)
  case atStart => exact ⟨0, 0, Nat.zero_le _, Nat.le_refl _, rfl, rfl, rfl⟩
  case round =>
    obtain ⟨k, m, hk, hmk, rfl, rfl, HA⟩ := hrel
    by_cases hlt : k < s.size
    · have hst := feedsTo_succ s k hlt
      rw [HA.out] at hst
      by_cases h10 : s[k].toNat = 10
      · rw [if_pos h10] at hst
        have HS := Lib.hid hst
        have hb : ((s[k].toNat : Int) == 10) = true := by simp [h10]
        clear hst h10
        go_wp2
        go_round
        case rel => exact ⟨k + 1, m + 1, by omega, by omega, by go_num, by go_num, HS⟩
        case measure => simp [intOf]; omega
      · rw [if_neg h10] at hst
        have HS := Lib.hid hst
        have hb : ((s[k].toNat : Int) == 10) = false := by simp; omega
        clear hst h10
        go_wp2
        go_round
        case rel => exact ⟨k + 1, m, by omega, by omega, rfl, by go_num, HS⟩
        case measure => simp [intOf]; omega
    · obtain rfl : k = s.size := by omega
      go_wp2
      go_ret
      exact ⟨ri (by have h1 := HA.out; have h2 := HR.out; omega), rfl⟩
/-- a row of tokens lies at a place, if there are any -/
def ToksQ (w : World) (p : Option Addr) (l : List Tok) : Prop := ∀ (j : Nat) (x : Tok), l[j]? = some x → ∃ b o, p = some ⟨b, o, none⟩ ∧ b < w.heap.size ∧ w.cell? ⟨b, o + j * 4, none⟩ = some (.int .i64 x.kind) ∧ w.cell? ⟨b, o + j * 4 + 1, none⟩ = some (.string (str x.text)) ∧ w.cell? ⟨b, o + j * 4 + 2, none⟩ = some (.int .i64 x.n) ∧ w.cell? ⟨b, o + j * 4 + 3, none⟩ = some (.int .i64 x.line)
theorem ToksQ.bel {w w' : World} {p : Option Addr} {l : List Tok} (h : ToksQ w p l) (hb : Bel w w') : ToksQ w' p l := fun j x hj => by
  obtain ⟨b, o, h1, h2, c0, c1, c2, c3⟩ := h j x hj
  exact ⟨b, o, h1, Nat.lt_of_lt_of_le h2 hb.size, (hb.cell (p := ⟨b, _, none⟩) h2).trans c0, (hb.cell (p := ⟨b, _, none⟩) h2).trans c1, (hb.cell (p := ⟨b, _, none⟩) h2).trans c2, (hb.cell (p := ⟨b, _, none⟩) h2).trans c3⟩
theorem ToksAt.q {w : World} {b o : Nat} {l : List Tok} (h : ToksAt w b o l) : ToksQ w (some ⟨b, o, none⟩) l := fun j x hj => by
  obtain ⟨c0, c1, c2, c3⟩ := h.get hj
  exact ⟨b, o, rfl, h.1, c0, c1, c2, c3⟩
theorem ToksQ.nil (w : World) (p : Option Addr) : ToksQ w p [] := fun j x hj => by simp at hj
def tval (x : Tok) : Value := .agg #[.int .i64 x.kind, .string (str x.text), .int .i64 x.n, .int .i64 x.line]
theorem bytes_list {s t : ByteArray} (h : s.toList = t.toList) : s = t := by
  rw [ByteArray.toList_eq, ByteArray.toList_eq] at h
  rw [← data_str s, ← data_str t, h]
theorem tneq_same (k n m : Int) (s : ByteArray) (w : World) :
    (binOp .neq 41 (.agg #[.int .i64 k, .string s, .int .i64 n, .int .i64 m]) (.agg #[.int .i64 k, .string s, .int .i64 n, .int .i64 m])).run Tryd.prog w = .ok (.bool false) w := by
  go_simp
theorem tneq_not (k n m k' n' m' : Int) (s s' : ByteArray) (hne : ¬ (k = k' ∧ s = s' ∧ n = n' ∧ m = m')) (w : World) :
    (binOp .neq 41 (.agg #[.int .i64 k, .string s, .int .i64 n, .int .i64 m]) (.agg #[.int .i64 k', .string s', .int .i64 n', .int .i64 m'])).run Tryd.prog w = .ok (.bool true) w := by
  go_simp
  intro h1 h2 h3 h4
  exact hne ⟨h1, bytes_list h2, h3, h4⟩
end Go.Proofs.YtgameoiofikhmaaDoor
