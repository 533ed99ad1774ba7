/- The document's own functions for layer 4, the smaller ones: names, digits, numbers of a text. -/
import Derived.Test.YtbfmlbcjggplgaaGreatDoorIAwk
import Derived.Test.YtbfmlbcjggplgaaGreatDoorIReadP
import Derived.BigQuiet
namespace Go.Proofs.YtbfmlbcjggplgaaGreatDoor
open Go.RowKit Im
set_option linter.unusedVariables false
set_option linter.unusedSimpArgs false
set_option maxHeartbeats 1000000 in
theorem labR_any (s : ByteArray) (hs : s.size ≤ maxLen) (w : World) :
    Calls Tryz.prog 28 #[.string s] w fun e w' => e = .returned (.bool (isLab s)) ∧ w = w' := by
  unfold maxLen at hs
  have he : isLab s = (decide (1 ≤ s.size ∧ s.size ≤ 40) && allTo s s.size) := by unfold isLab; rw [allTo_full]; rfl
  have hN : ∀ k, k ≤ s.size → allTo s k = false → isLab s = false := fun k hk h => by
    have h1 := allTo_no s k hk h
    rw [he, allTo_full, h1, Bool.and_false]
  generalize isLab s = r at hN he ⊢
  have HN := Lib.hid hN
  have HE := Lib.hid he
  clear he hN
  go_enter Tryz.func28, Tryz.ntmps28
  go_wp2
  go_loop [3] (fun i => ∃ k : Nat, k ≤ s.size ∧ i = .int .i64 k ∧ Hid (allTo s k = true)) (fun i => s.size - (intOf i).toNat)
  case atStart => exact ⟨0, Nat.zero_le _, rfl, rfl⟩
  case round =>
    obtain ⟨k, hk, rfl, HA⟩ := hrel
    by_cases hlt : k < s.size
    · have hsn := allTo_succ s k hlt
      rw [HA.out, Bool.true_and] at hsn
      have HS := Lib.hid hsn
      clear hsn
      cases hc : okc s[k] with
      | true =>
        have hc' : 33 ≤ s[k].toNat ∧ s[k].toNat ≤ 126 := of_decide_eq_true hc
        have HC := Lib.hid hc
        obtain ⟨c1, c2⟩ := hc'
        clear hc
        go_wp2
        go_round
        case rel => exact ⟨k + 1, by omega, by go_num, HS.out.trans HC.out⟩
        case measure => simp [intOf]; omega
      | false =>
        have hc' : ¬ (33 ≤ s[k].toNat ∧ s[k].toNat ≤ 126) := of_decide_eq_false hc
        have HC := Lib.hid hc
        clear hc
        obtain rfl : r = false := HN.out (k + 1) hlt (HS.out.trans HC.out)
        rcases (show s[k].toNat < 33 ∨ 126 < s[k].toNat by omega) with h | h
        · clear hc'
          go_wp2
          go_ret
          exact ⟨rfl, rfl⟩
        · clear hc'
          go_wp2
          go_ret
          exact ⟨rfl, rfl⟩
    · obtain rfl : k = s.size := by omega
      have e := HE.out
      rw [HA.out, Bool.and_true] at e
      by_cases h1 : 1 ≤ s.size
      · by_cases h2 : s.size ≤ 40
        · rw [decide_eq_true ⟨h1, h2⟩] at e
          subst e
          go_wp2
          go_ret
          exact ⟨rb (by first | rfl | (simp; done) | (simp; omega)), rfl⟩
        · rw [decide_eq_false (fun c => h2 c.2)] at e
          subst e
          go_wp2
          go_ret
          exact ⟨rb (by first | rfl | (simp; done) | (simp; omega)), rfl⟩
      · rw [decide_eq_false (fun c => h1 c.1)] at e
        subst e
        go_wp2
        go_ret
        exact ⟨rb (by first | rfl | (simp; done) | (simp; omega)), rfl⟩
/-- so many digits to a base, by the document's own recursion -/
def digF (base : Nat) : Nat → Nat → Int → Bs
  | 0, _, _ => []
  | k + 1, n, many => if 1 < many ∨ base ≤ n then digF base k (n / base) (many - 1) ++ [hexd (n % base)] else [hexd (n % base)]
/-- the recursion ends within so many calls -/
def digS (base : Nat) : Nat → Nat → Int → Prop
  | 0, _, _ => False
  | k + 1, n, many => (1 < many ∨ base ≤ n) → digS base k (n / base) (many - 1)
theorem digF_len (base : Nat) : ∀ k n many, (digF base k n many).length ≤ k
  | 0, _, _ => Nat.le_refl _
  | k + 1, n, many => by
    have ih := digF_len base k (n / base) (many - 1)
    unfold digF
    split
    · rw [List.length_append]
      simp
      omega
    · simp
theorem dig16 {n : Nat} (h : n < 4294967296) : digF 16 8 n 8 = hex8 n := by
  have e : ∀ j : Nat, dig (n : Int) j = hexd (n / 16 ^ j % 16) := fun j => by
    unfold dig
    congr 1
  unfold hex8
  simp only [e]
  simp only [digF]
  rw [if_pos (by omega), if_pos (by omega), if_pos (by omega), if_pos (by omega), if_pos (by omega), if_pos (by omega), if_pos (by omega), if_neg (by omega)]
  simp only [Nat.div_div_eq_div_mul]
  simp
theorem dig16_stops {n : Nat} (h : n < 4294967296) : digS 16 8 n 8 := by
  simp only [digS]
  omega
theorem dig10 : ∀ (k n : Nat) (many : Int), many ≤ 1 → n < 10 ^ k → 0 < k → digF 10 k n many = Lib.decDigits n ∧ digS 10 k n many
  | k + 1, n, many, hm, h, _ => by
    rw [decDigits_rec]
    by_cases h10 : n < 10
    · unfold digF digS
      rw [if_neg (by omega), if_pos h10]
      refine ⟨?_, fun c => by omega⟩
      have : n % 10 = n := Nat.mod_eq_of_lt h10
      rw [this]
      unfold hexd
      rw [if_pos h10]
    · have hk : 0 < k := by
        cases k with
        | zero => simp at h; omega
        | succ k => omega
      have hn : n / 10 < 10 ^ k := by rw [Nat.div_lt_iff_lt_mul (by decide)]; rw [Nat.pow_succ] at h; exact h
      obtain ⟨i1, i2⟩ := dig10 k (n / 10) (many - 1) (by omega) hn hk
      unfold digF digS
      rw [if_pos (by omega), if_neg h10, i1]
      refine ⟨?_, fun _ => i2⟩
      congr 2
      unfold hexd
      rw [if_pos (by omega)]
theorem hex_cut : ∀ i : Fin 16, (⟨#[48, 49, 50, 51, 52, 53, 54, 55, 56, 57, 97, 98, 99, 100, 101, 102]⟩ : ByteArray).extract i.val (i.val + 1) = str [hexd i.val] := by decide +kernel
theorem slice_hex (d : Nat) (hd : d < 16) {C : ByteArray} (hcut : (⟨#[48, 49, 50, 51, 52, 53, 54, 55, 56, 57, 97, 98, 99, 100, 101, 102]⟩ : ByteArray).extract d (d + 1) = C) (wx : World) :
    (Instr.slice 9 (.string ⟨#[48, 49, 50, 51, 52, 53, 54, 55, 56, 57, 97, 98, 99, 100, 101, 102]⟩) (some (.int .i64 (d : Int))) (some (.int .i64 ((d : Int) + 1))) none).run Tryz.prog wx = .ok (.string C) wx := by
  have := run_slice_string (P := Tryz.prog) wx 9 ⟨#[48, 49, 50, 51, 52, 53, 54, 55, 56, 57, 97, 98, 99, 100, 101, 102]⟩ .i64 .i64 (d : Int) ((d : Int) + 1) Tryz.underlying9 (by omega) (by omega) (show ((d : Int) + 1) ≤ (16 : Int) by omega)
  rw [this, ← hcut]
  rfl
set_option maxHeartbeats 4000000 in
theorem digits_any {base : Nat} (hb : base = 10 ∨ base = 16) : ∀ (k n : Nat) (many : Int) (S : ByteArray), digS base k n many → str (digF base k n many) = S → n ≤ 9223372036854775807 → -1000 ≤ many - k → many ≤ 1000 → k ≤ 100 → ∀ w, Calls Tryz.prog 24 #[.int .i64 n, .int .i64 base, .int .i64 many] w fun e w' => e = .returned (.string S) ∧ ∃ q, w' = w.drewN q
  | 0, _, _, _, hs, _, _, _, _, _ => hs.elim
  | k + 1, n, many, S, hs, hS, hn, hm1, hm2, hk => fun w => by
    have ih := digits_any hb k (n / base) (many - 1)
    obtain ⟨d, hd⟩ : ∃ d, n % base = d := ⟨_, rfl⟩
    have hd16 : d < 16 := by rcases hb with rfl | rfl <;> omega
    have hcut := hex_cut ⟨d, hd16⟩
    simp only at hcut
    obtain ⟨C, hC⟩ : ∃ C, str [hexd d] = C := ⟨_, rfl⟩
    have hCs : C.size = 1 := by rw [← hC]; rfl
    rw [hC] at hcut
    have hdi : (d : Int) + 1 ≤ 16 := by omega
    have hd0 : (0 : Int) ≤ (d : Int) := by omega
    by_cases hc : 1 < many ∨ base ≤ n
    · have hs' := hs hc
      obtain ⟨R, hR⟩ : ∃ R, str (digF base k (n / base) (many - 1)) = R := ⟨_, rfl⟩
      have hRS : R ++ C = S := by
        rw [← hS, ← hR, ← hC, str_app]
        congr 1
        rw [digF, if_pos hc, hd]
      have hRs : R.size ≤ 100 := by rw [← hR, str_size]; have := digF_len base k (n / base) (many - 1); omega
      have IH := Lib.hid (ih R hs' hR (by rcases hb with rfl | rfl <;> omega) (by omega) (by omega) (by omega))
      have HRS := Lib.hid hRS
      have hsz : R.size + C.size ≤ 9223372036854775807 := by omega
      have vm : IntKind.i64.wrap (many - 1) = many - 1 := IntWalk.i64_in _ (by constructor <;> omega)
      have hc' : (1 : Int) < many ∨ (base : Int) ≤ (n : Int) := by omega
      clear ih hs hs' hS hR hRS hC hc hCs hRs
      rcases hb with rfl | rfl
      · have e1 : (n : Int).tmod 10 = (d : Int) := by rw [Int.tmod_eq_emod_of_nonneg (by omega)]; omega
        have e2 : (n : Int).tdiv 10 = ((n / 10 : Nat) : Int) := by rw [Int.tdiv_eq_ediv_of_nonneg (by omega)]; omega
        have hsl : ∀ wx : World, (Instr.slice 9 (.string ⟨#[48, 49, 50, 51, 52, 53, 54, 55, 56, 57, 97, 98, 99, 100, 101, 102]⟩) (some (.int .i64 (d : Int))) (some (.int .i64 ((d : Int) + 1))) none).run Tryz.prog wx = .ok (.string C) wx := fun wx => slice_hex d hd16 hcut wx
        have vd : IntKind.i64.wrap ((d : Int) + 1) = (d : Int) + 1 := IntWalk.i64_in _ (by constructor <;> omega)
        have hn0 : (0 : Int) ≤ (n : Int) := by omega
        have hnb : (n : Int) ≤ 9223372036854775807 := by omega
        by_cases h1 : (1 : Int) < many
        · go_enter Tryz.func24, Tryz.ntmps24
          go_wp2_with fail
          go_quiet (fail)
          go_wp2_with (go_at_call 24; refine (IH.out _).mono ?_; rintro e w' ⟨rfl, q, rfl⟩)
          go_ret
          exact ⟨by rw [HRS.out]; rfl, _, rfl⟩
        · have h2 : (10 : Int) ≤ (n : Int) := by omega
          have h1' : many ≤ 1 := by omega
          go_enter Tryz.func24, Tryz.ntmps24
          go_wp2_with fail
          go_quiet (fail)
          go_wp2_with (go_at_call 24; refine (IH.out _).mono ?_; rintro e w' ⟨rfl, q, rfl⟩)
          go_ret
          exact ⟨by rw [HRS.out]; rfl, _, rfl⟩
      · have e1 : (n : Int).tmod 16 = (d : Int) := by rw [Int.tmod_eq_emod_of_nonneg (by omega)]; omega
        have e2 : (n : Int).tdiv 16 = ((n / 16 : Nat) : Int) := by rw [Int.tdiv_eq_ediv_of_nonneg (by omega)]; omega
        have hsl : ∀ wx : World, (Instr.slice 9 (.string ⟨#[48, 49, 50, 51, 52, 53, 54, 55, 56, 57, 97, 98, 99, 100, 101, 102]⟩) (some (.int .i64 (d : Int))) (some (.int .i64 ((d : Int) + 1))) none).run Tryz.prog wx = .ok (.string C) wx := fun wx => slice_hex d hd16 hcut wx
        have vd : IntKind.i64.wrap ((d : Int) + 1) = (d : Int) + 1 := IntWalk.i64_in _ (by constructor <;> omega)
        have hn0 : (0 : Int) ≤ (n : Int) := by omega
        have hnb : (n : Int) ≤ 9223372036854775807 := by omega
        by_cases h1 : (1 : Int) < many
        · go_enter Tryz.func24, Tryz.ntmps24
          go_wp2_with fail
          go_quiet (fail)
          go_wp2_with (go_at_call 24; refine (IH.out _).mono ?_; rintro e w' ⟨rfl, q, rfl⟩)
          go_ret
          exact ⟨by rw [HRS.out]; rfl, _, rfl⟩
        · have h2 : (16 : Int) ≤ (n : Int) := by omega
          have h1' : many ≤ 1 := by omega
          go_enter Tryz.func24, Tryz.ntmps24
          go_wp2_with fail
          go_quiet (fail)
          go_wp2_with (go_at_call 24; refine (IH.out _).mono ?_; rintro e w' ⟨rfl, q, rfl⟩)
          go_ret
          exact ⟨by rw [HRS.out]; rfl, _, rfl⟩
    · have hCS : C = S := by rw [← hS, ← hC, digF, if_neg hc, hd]
      have HCS := Lib.hid hCS
      clear ih hs hS hC hCS hCs
      rcases hb with rfl | rfl
      · have e1 : (n : Int).tmod 10 = (d : Int) := by rw [Int.tmod_eq_emod_of_nonneg (by omega)]; omega
        have hsl : ∀ wx : World, (Instr.slice 9 (.string ⟨#[48, 49, 50, 51, 52, 53, 54, 55, 56, 57, 97, 98, 99, 100, 101, 102]⟩) (some (.int .i64 (d : Int))) (some (.int .i64 ((d : Int) + 1))) none).run Tryz.prog wx = .ok (.string C) wx := fun wx => slice_hex d hd16 hcut wx
        have vd : IntKind.i64.wrap ((d : Int) + 1) = (d : Int) + 1 := IntWalk.i64_in _ (by constructor <;> omega)
        have hn0 : (0 : Int) ≤ (n : Int) := by omega
        have hnb : (n : Int) ≤ 9223372036854775807 := by omega
        have h2 : (n : Int) < 10 := by omega
        have h1' : many ≤ 1 := by omega
        go_enter Tryz.func24, Tryz.ntmps24
        go_wp2_with fail
        go_quiet (fail)
        go_wp2_with fail
        go_ret
        exact ⟨by first | (rw [HCS.out]; done) | (rw [HCS.out]; rfl), _, rfl⟩
      · have e1 : (n : Int).tmod 16 = (d : Int) := by rw [Int.tmod_eq_emod_of_nonneg (by omega)]; omega
        have hsl : ∀ wx : World, (Instr.slice 9 (.string ⟨#[48, 49, 50, 51, 52, 53, 54, 55, 56, 57, 97, 98, 99, 100, 101, 102]⟩) (some (.int .i64 (d : Int))) (some (.int .i64 ((d : Int) + 1))) none).run Tryz.prog wx = .ok (.string C) wx := fun wx => slice_hex d hd16 hcut wx
        have vd : IntKind.i64.wrap ((d : Int) + 1) = (d : Int) + 1 := IntWalk.i64_in _ (by constructor <;> omega)
        have hn0 : (0 : Int) ≤ (n : Int) := by omega
        have hnb : (n : Int) ≤ 9223372036854775807 := by omega
        have h2 : (n : Int) < 16 := by omega
        have h1' : many ≤ 1 := by omega
        go_enter Tryz.func24, Tryz.ntmps24
        go_wp2_with fail
        go_quiet (fail)
        go_wp2_with fail
        go_ret
        exact ⟨by first | (rw [HCS.out]; done) | (rw [HCS.out]; rfl), _, rfl⟩
end Go.Proofs.YtbfmlbcjggplgaaGreatDoor
