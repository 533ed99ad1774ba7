/- A word's eight digits, and a text's sum. -/
import Derived.Test.YtbfmlbcjggplgaaGreatDoorIBase
import Derived.IntWalk
import Derived.Laws.Rows
import Derived.Laws.IdiomStrings
namespace Go.Proofs.YtbfmlbcjggplgaaGreatDoor
open Go.RowKit Im
set_option linter.unusedVariables false
def digCells (n : Int) (k : Nat) : Array Value := #[.int .u8 (if 7 < k then (dig n 7).toNat else 0 : Nat), .int .u8 (if 6 < k then (dig n 6).toNat else 0 : Nat), .int .u8 (if 5 < k then (dig n 5).toNat else 0 : Nat), .int .u8 (if 4 < k then (dig n 4).toNat else 0 : Nat), .int .u8 (if 3 < k then (dig n 3).toNat else 0 : Nat), .int .u8 (if 2 < k then (dig n 2).toNat else 0 : Nat), .int .u8 (if 1 < k then (dig n 1).toNat else 0 : Nat), .int .u8 (if 0 < k then (dig n 0).toNat else 0 : Nat)]
theorem rs {a b : ByteArray} (h : a = b) : Ending.returned (.string a) = .returned (.string b) := by rw [h]
namespace Rv
theorem i64_toNat (v : BitVec 64) : IntKind.i64.wrap (v.toNat : Int) = v.toInt := by
  rw [IntKind.wrap_i64, BitVec.toInt_eq_toNat_cond]
  have := v.isLt
  split <;> omega
theorem and_15 (x : Int) : bits .and .i64 x 15 = x % 16 := by
  show IntKind.i64.wrap ((BitVec.ofInt 64 x &&& BitVec.ofInt 64 15).toNat : Int) = _
  have e : (BitVec.ofInt 64 15).toNat = 2 ^ 4 - 1 := by decide
  rw [BitVec.toNat_and, e, Nat.and_two_pow_sub_one_eq_mod _ 4, BitVec.toNat_ofInt, IntKind.wrap_i64]
  omega
end Rv
theorem hexd_get : ∀ m : Nat, (h : m < 16) → ((⟨#[48, 49, 50, 51, 52, 53, 54, 55, 56, 57, 97, 98, 99, 100, 101, 102]⟩ : ByteArray)[m]'h) = hexd m := by decide
theorem dig_get (x : Int) (m : Nat) (hm : m = (bits .and .i64 x 15).toNat) (h : m < 16) : ((⟨#[48, 49, 50, 51, 52, 53, 54, 55, 56, 57, 97, 98, 99, 100, 101, 102]⟩ : ByteArray)[m]'h) = hexd (x % 16).toNat := by
  rw [hexd_get m h, hm, Rv.and_15]
theorem and_bd (x : Int) : 0 ≤ bits .and .i64 x 15 ∧ bits .and .i64 x 15 < 16 := by
  rw [Rv.and_15]
  omega
/-- one digit laid -/
theorem dig_step {w wr : World} {B : Nat} {n : Int} {k : Nat} {cs : Array Value} (hA : Bel w wr ∧ wr.heap[B]? = some (.cells cs 82 (0, 0))) (hB : B = w.heap.size) (i : Nat) (v : Value) (hcs : digCells n (k + 1) = cs.set! i v) :
    Bel w (wr.setCell ⟨B, i, none⟩ v) ∧ (wr.setCell ⟨B, i, none⟩ v).heap[B]? = some (.cells (digCells n (k + 1)) 82 (0, 0)) := by
  refine ⟨hA.1.setCell (p := ⟨B, i, none⟩) (by rw [hB]; exact Nat.le_refl _) _, ?_⟩
  rw [heap_setCell_same _ _ _ _ _ _ hA.2, hcs]
  simp
theorem conv_back {l : Bs} {cap : Nat} (w : World) (B : Nat) (hl : l.length = 8) (hc : ∀ i b, l[i]? = some b → w.cell? ⟨B, i, none⟩ = some (.int .u8 b.toNat)) :
    (convert 61 9 (.slice (some ⟨B, 0, none⟩) 8 cap)).run Tryz.prog w = .ok (.string (str l)) w := by
  have := run_convert_bytes_back (P := Tryz.prog) w 61 9 5 ⟨B, 0, none⟩ cap l Tryz.underlying61 Tryz.underlying5 Tryz.underlying9 (fun j hj => by
    have := hc j l[j] (List.getElem?_eq_getElem hj)
    rw [← this, Addr.add_lit, Nat.zero_add])
  rw [hl] at this
  exact this
set_option maxHeartbeats 1000000 in
theorem digits_lit {n : Int} {S : ByteArray} (h : str (hex8 n) = S) (h0 : -9223372036854775808 ≤ n) (h1 : n ≤ 9223372036854775807) (w : World) :
    Calls Tryz.prog 40 #[.int .i64 n] w fun e w' => e = .returned (.string S) ∧ Bel w w' := by
  have HS := Lib.hid h
  clear h
  go_enter Tryz.func40, Tryz.ntmps40
  go_wp2_with fail
  have hB := heap_alloc_new w (.cells (digCells n 0) 82)
  have hb0 := (Bel.refl w).alloc (digCells n 0) 82
  show Code.wp _ _ _ _ (w.alloc (.cells (digCells n 0) 82))
  generalize w.alloc (.cells (digCells n 0) 82) = W0 at hB hb0 ⊢
  have HB0 := Lib.hid hb0
  obtain ⟨B, hBe⟩ : ∃ b, b = w.heap.size := ⟨_, rfl⟩
  rw [← hBe] at hB ⊢
  have HB := Lib.hid hB
  have HBE := Lib.hid hBe
  clear hB hb0 hBe
  go_loopw [5] (fun i wr => ∃ k : Nat, k ≤ 8 ∧ i = .int .i64 k ∧ Hid (Bel w wr ∧ wr.heap[B]? = some (.cells (digCells n k) 82 (0, 0)))) (fun i _ => 8 - (intOf i).toNat)
  case atStart => exact ⟨0, by omega, rfl, HB0.out, HB.out⟩
  case round =>
    obtain ⟨k, hk, rfl, HA⟩ := hrel
    rcases (show k = 0 ∨ k = 1 ∨ k = 2 ∨ k = 3 ∨ k = 4 ∨ k = 5 ∨ k = 6 ∨ k = 7 ∨ k = 8 by omega) with rfl | rfl | rfl | rfl | rfl | rfl | rfl | rfl | rfl
    · have c6 : wr.cell? ⟨B, 7, none⟩ = some (.int .u8 0) := cell_of_heap HA.out.2 7
      have f6 := frozen_of_heap HA.out.2 7
      obtain ⟨g0, g1⟩ := and_bd (n)
      have hg := dig_get (n) _ rfl (by omega)
      have HG : Hid (∀ z, z = hexd ((n) % 16).toNat → Bel w (wr.setCell ⟨B, 7, none⟩ (.int .u8 z.toNat)) ∧ (wr.setCell ⟨B, 7, none⟩ (.int .u8 z.toNat)).heap[B]? = some (.cells (digCells n 1) 82 (0, 0))) := Lib.hid (fun z hz => dig_step (k := 0) HA.out HBE.out 7 _ (by subst hz; simp [digCells, dig]))
      have HGG := Lib.hid hg
      clear hg
      go_wp2_with fail
      refine ⟨⟨1, by omega, rfl, Lib.hid (HG.out _ HGG.out)⟩, by simp [intOf]⟩
    · have c6 : wr.cell? ⟨B, 6, none⟩ = some (.int .u8 0) := cell_of_heap HA.out.2 6
      have f6 := frozen_of_heap HA.out.2 6
      obtain ⟨g0, g1⟩ := and_bd (n / 16)
      have hg := dig_get (n / 16) _ rfl (by omega)
      have HG : Hid (∀ z, z = hexd ((n / 16) % 16).toNat → Bel w (wr.setCell ⟨B, 6, none⟩ (.int .u8 z.toNat)) ∧ (wr.setCell ⟨B, 6, none⟩ (.int .u8 z.toNat)).heap[B]? = some (.cells (digCells n 2) 82 (0, 0))) := Lib.hid (fun z hz => dig_step (k := 1) HA.out HBE.out 6 _ (by subst hz; simp [digCells, dig]))
      have HGG := Lib.hid hg
      clear hg
      go_wp2_with fail
      refine ⟨⟨2, by omega, rfl, Lib.hid (HG.out _ HGG.out)⟩, by simp [intOf]⟩
    · have c6 : wr.cell? ⟨B, 5, none⟩ = some (.int .u8 0) := cell_of_heap HA.out.2 5
      have f6 := frozen_of_heap HA.out.2 5
      obtain ⟨g0, g1⟩ := and_bd (n / 256)
      have hg := dig_get (n / 256) _ rfl (by omega)
      have HG : Hid (∀ z, z = hexd ((n / 256) % 16).toNat → Bel w (wr.setCell ⟨B, 5, none⟩ (.int .u8 z.toNat)) ∧ (wr.setCell ⟨B, 5, none⟩ (.int .u8 z.toNat)).heap[B]? = some (.cells (digCells n 3) 82 (0, 0))) := Lib.hid (fun z hz => dig_step (k := 2) HA.out HBE.out 5 _ (by subst hz; simp [digCells, dig]))
      have HGG := Lib.hid hg
      clear hg
      go_wp2_with fail
      refine ⟨⟨3, by omega, rfl, Lib.hid (HG.out _ HGG.out)⟩, by simp [intOf]⟩
    · have c6 : wr.cell? ⟨B, 4, none⟩ = some (.int .u8 0) := cell_of_heap HA.out.2 4
      have f6 := frozen_of_heap HA.out.2 4
      obtain ⟨g0, g1⟩ := and_bd (n / 4096)
      have hg := dig_get (n / 4096) _ rfl (by omega)
      have HG : Hid (∀ z, z = hexd ((n / 4096) % 16).toNat → Bel w (wr.setCell ⟨B, 4, none⟩ (.int .u8 z.toNat)) ∧ (wr.setCell ⟨B, 4, none⟩ (.int .u8 z.toNat)).heap[B]? = some (.cells (digCells n 4) 82 (0, 0))) := Lib.hid (fun z hz => dig_step (k := 3) HA.out HBE.out 4 _ (by subst hz; simp [digCells, dig]))
      have HGG := Lib.hid hg
      clear hg
      go_wp2_with fail
      refine ⟨⟨4, by omega, rfl, Lib.hid (HG.out _ HGG.out)⟩, by simp [intOf]⟩
    · have c6 : wr.cell? ⟨B, 3, none⟩ = some (.int .u8 0) := cell_of_heap HA.out.2 3
      have f6 := frozen_of_heap HA.out.2 3
      obtain ⟨g0, g1⟩ := and_bd (n / 65536)
      have hg := dig_get (n / 65536) _ rfl (by omega)
      have HG : Hid (∀ z, z = hexd ((n / 65536) % 16).toNat → Bel w (wr.setCell ⟨B, 3, none⟩ (.int .u8 z.toNat)) ∧ (wr.setCell ⟨B, 3, none⟩ (.int .u8 z.toNat)).heap[B]? = some (.cells (digCells n 5) 82 (0, 0))) := Lib.hid (fun z hz => dig_step (k := 4) HA.out HBE.out 3 _ (by subst hz; simp [digCells, dig]))
      have HGG := Lib.hid hg
      clear hg
      go_wp2_with fail
      refine ⟨⟨5, by omega, rfl, Lib.hid (HG.out _ HGG.out)⟩, by simp [intOf]⟩
    · have c6 : wr.cell? ⟨B, 2, none⟩ = some (.int .u8 0) := cell_of_heap HA.out.2 2
      have f6 := frozen_of_heap HA.out.2 2
      obtain ⟨g0, g1⟩ := and_bd (n / 1048576)
      have hg := dig_get (n / 1048576) _ rfl (by omega)
      have HG : Hid (∀ z, z = hexd ((n / 1048576) % 16).toNat → Bel w (wr.setCell ⟨B, 2, none⟩ (.int .u8 z.toNat)) ∧ (wr.setCell ⟨B, 2, none⟩ (.int .u8 z.toNat)).heap[B]? = some (.cells (digCells n 6) 82 (0, 0))) := Lib.hid (fun z hz => dig_step (k := 5) HA.out HBE.out 2 _ (by subst hz; simp [digCells, dig]))
      have HGG := Lib.hid hg
      clear hg
      go_wp2_with fail
      refine ⟨⟨6, by omega, rfl, Lib.hid (HG.out _ HGG.out)⟩, by simp [intOf]⟩
    · have c6 : wr.cell? ⟨B, 1, none⟩ = some (.int .u8 0) := cell_of_heap HA.out.2 1
      have f6 := frozen_of_heap HA.out.2 1
      obtain ⟨g0, g1⟩ := and_bd (n / 16777216)
      have hg := dig_get (n / 16777216) _ rfl (by omega)
      have HG : Hid (∀ z, z = hexd ((n / 16777216) % 16).toNat → Bel w (wr.setCell ⟨B, 1, none⟩ (.int .u8 z.toNat)) ∧ (wr.setCell ⟨B, 1, none⟩ (.int .u8 z.toNat)).heap[B]? = some (.cells (digCells n 7) 82 (0, 0))) := Lib.hid (fun z hz => dig_step (k := 6) HA.out HBE.out 1 _ (by subst hz; simp [digCells, dig]))
      have HGG := Lib.hid hg
      clear hg
      go_wp2_with fail
      refine ⟨⟨7, by omega, rfl, Lib.hid (HG.out _ HGG.out)⟩, by simp [intOf]⟩
    · have c6 : wr.cell? ⟨B, 0, none⟩ = some (.int .u8 0) := cell_of_heap HA.out.2 0
      have f6 := frozen_of_heap HA.out.2 0
      obtain ⟨g0, g1⟩ := and_bd (n / 268435456)
      have hg := dig_get (n / 268435456) _ rfl (by omega)
      have HG : Hid (∀ z, z = hexd ((n / 268435456) % 16).toNat → Bel w (wr.setCell ⟨B, 0, none⟩ (.int .u8 z.toNat)) ∧ (wr.setCell ⟨B, 0, none⟩ (.int .u8 z.toNat)).heap[B]? = some (.cells (digCells n 8) 82 (0, 0))) := Lib.hid (fun z hz => dig_step (k := 7) HA.out HBE.out 0 _ (by subst hz; simp [digCells, dig]))
      have HGG := Lib.hid hg
      clear hg
      go_wp2_with fail
      refine ⟨⟨8, by omega, rfl, Lib.hid (HG.out _ HGG.out)⟩, by simp [intOf]⟩
    · have hx := HA.out.2
      have hcv := conv_back (l := hex8 n) (cap := 8) wr B (by rfl) (by
        intro i b hb
        have hi : i < 8 := (List.getElem?_eq_some_iff.1 hb).1
        rw [cell_of_heap hx i]
        rcases (show i = 0 ∨ i = 1 ∨ i = 2 ∨ i = 3 ∨ i = 4 ∨ i = 5 ∨ i = 6 ∨ i = 7 by omega) with rfl | rfl | rfl | rfl | rfl | rfl | rfl | rfl <;> (simp [hex8] at hb; subst hb; rfl))
      have HBL := Lib.hid HA.out.1
      clear hx HA
      rw [HS.out] at hcv
      go_wp2_with fail
      go_ret
      exact ⟨rfl, HBL.out⟩
theorem sumLine_lit {n : Int} {S : ByteArray} (h : str (sumLine n) = S) (h0 : -9223372036854775808 ≤ n) (h1 : n ≤ 9223372036854775807) (w : World) :
    Calls Tryz.prog 21 #[.int .i64 n] w fun e w' => e = .returned (.string S) ∧ Bel w w' := by
  obtain ⟨D, hD⟩ : ∃ D, str (hex8 n) = D := ⟨_, rfl⟩
  have z : D.size = 8 := by rw [← hD]; rfl
  have e : (⟨#[115, 117, 109, 32]⟩ ++ D : ByteArray) ++ ⟨#[10]⟩ = S := by
    rw [← h, ← hD, show (⟨#[115, 117, 109, 32]⟩ : ByteArray) = str [115, 117, 109, 32] from rfl, show (⟨#[10]⟩ : ByteArray) = str [10] from rfl, str_app, str_app]
    rfl
  have z1 : (⟨#[115, 117, 109, 32]⟩ : ByteArray).size + D.size ≤ 9223372036854775807 := by rw [z]; decide
  have z2 : (⟨#[115, 117, 109, 32]⟩ ++ D : ByteArray).size + (⟨#[10]⟩ : ByteArray).size ≤ 9223372036854775807 := by rw [ByteArray.size_append, z]; decide
  have HD := Lib.hid hD
  have HE := Lib.hid e
  clear hD e h z
  go_enter Tryz.func21, Tryz.ntmps21
  go_wp2_with (go_at_call 40; ((with_reducible refine (digits_lit HD.out h0 h1 _).mono ?_); rintro e w1 ⟨rfl, hb⟩; have HB := Lib.hid hb; clear hb))
  go_ret
  exact ⟨rs HE.out, HB.out⟩
/-- the sum of the first k bytes -/
def adTo (s : ByteArray) (k : Nat) : Nat × Nat := adler (s.data.toList.take k)
theorem adTo_succ (s : ByteArray) (k : Nat) (h : k < s.size) : adTo s (k + 1) = adStep (adTo s k) s[k] := by
  unfold adTo
  rw [List.take_succ_eq_append_getElem (by simpa using h), adler_snoc]
  rfl
theorem adTo_lt (s : ByteArray) (k : Nat) : (adTo s k).1 < 65521 ∧ (adTo s k).2 < 65521 := adler_lt _
theorem adTo_full (s : ByteArray) : adTo s s.size = adler s.data.toList := by
  unfold adTo
  rw [List.take_of_length_le (by simp)]
set_option maxHeartbeats 1000000 in
theorem sumOf_lit {s : ByteArray} {r : Int} (h : (sumOf s.data.toList : Int) = r) (hs : s.size ≤ maxLen) (w : World) :
    Calls Tryz.prog 22 #[.string s] w fun e w' => e = .returned (.int .i64 r) ∧ w = w' := by
  unfold maxLen at hs
  have HF : Hid ((((adTo s s.size).2 * 65536 + (adTo s s.size).1 : Nat) : Int) = r) := Lib.hid (by rw [adTo_full]; exact h)
  clear h
  go_enter Tryz.func22, Tryz.ntmps22
  go_wp2
  go_loop [3, 4, 8] (fun a b i => ∃ k p q : Nat, k ≤ s.size ∧ i = .int .i64 k ∧ a = .int .i64 p ∧ b = .int .i64 q ∧ p < 65521 ∧ q < 65521 ∧ Hid (adTo s k = (p, q))) (fun _ _ i => s.size - (intOf i).toNat)
  case atStart => exact ⟨0, 1, 0, Nat.zero_le _, rfl, rfl, rfl, by decide, by decide, Lib.hid rfl⟩
  case round =>
    obtain ⟨k, p, q, hk, rfl, rfl, rfl, hp, hq, HA⟩ := hrel
    by_cases hlt : k < s.size
    · have hsn := adTo_succ s k hlt
      rw [HA.out] at hsn
      have hc : s[k].toNat < 256 := s[k].toNat_lt
      have HS := Lib.hid hsn
      clear hsn
      go_wp2
      go_round
      case rel => exact ⟨k + 1, (p + s[k].toNat) % 65521, (q + (p + s[k].toNat) % 65521) % 65521, by omega, by go_num, by go_num, by go_num, by omega, by omega, HS.out⟩
      case measure => simp [intOf]; omega
    · obtain rfl : k = s.size := by omega
      have hr : (q : Int) * 65536 + p = r := by
        have h1 := HF.out
        rw [HA.out] at h1
        have h2 : ((q * 65536 + p : Nat) : Int) = r := h1
        omega
      have HR := Lib.hid hr
      clear hr
      go_wp2
      go_ret
      exact ⟨ri HR.out, rfl⟩
end Go.Proofs.YtbfmlbcjggplgaaGreatDoor
