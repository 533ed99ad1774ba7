/- What the document's own Label, Number, label and Right answer. -/
import Derived.Test.YtjjbfeoidceiiaaLShortW
import Derived.Test.YtjjbfeoidceiiaaFRight
namespace Go.Proofs.Ytjjbfeoidceiiaa
open Go.RowKit Rv Lb
set_option linter.unusedVariables false
set_option maxHeartbeats 1000000 in
theorem labR_any (s : ByteArray) (hs : s.size ≤ maxLen) (w : World) :
    Calls Try.prog 46 #[.string s] w fun e w' => e = .returned (.bool (isLab s)) ∧ w = w' := by
  unfold maxLen at hs
  have he : isLab s = (decide (1 ≤ s.size ∧ s.size ≤ 40) && allTo s s.size) := by unfold isLab; rw [allTo_full]; rfl
  have hN : ∀ k, k ≤ s.size → allTo s k = false → isLab s = false := fun k hk h => by
    have h1 := allTo_no s k hk h
    rw [he, allTo_full, h1, Bool.and_false]
  generalize isLab s = r at hN he ⊢
  have HN := Lib.hid hN
  have HE := Lib.hid he
  clear he hN
  go_enter Try.func46, Try.ntmps46
  go_wp2
  go_loop [3] (fun i => ∃ k : Nat, k ≤ s.size ∧ i = .int .i64 k ∧ Hid (allTo s k = true)) (fun i => s.size - (intOf i).toNat)
  case atStart => exact ⟨0, Nat.zero_le _, rfl, rfl⟩
  case round =>
    obtain ⟨k, hk, rfl, HA⟩ := hrel
    by_cases hlt : k < s.size
    · have hsn := allTo_succ s k hlt
      rw [HA.out, Bool.true_and] at hsn
      have HS := Lib.hid hsn
      clear hsn
      cases hc : okc s[k] with
      | true =>
        have hc' : 33 ≤ s[k].toNat ∧ s[k].toNat ≤ 126 := of_decide_eq_true hc
        have HC := Lib.hid hc
        obtain ⟨c1, c2⟩ := hc'
        clear hc
        go_wp2
        go_round
        case rel => exact ⟨k + 1, by omega, by go_num, HS.out.trans HC.out⟩
        case measure => simp [intOf]; omega
      | false =>
        have hc' : ¬ (33 ≤ s[k].toNat ∧ s[k].toNat ≤ 126) := of_decide_eq_false hc
        have HC := Lib.hid hc
        clear hc
        obtain rfl : r = false := HN.out (k + 1) hlt (HS.out.trans HC.out)
        rcases (show s[k].toNat < 33 ∨ 126 < s[k].toNat by omega) with h | h
        · clear hc'
          go_wp2
          go_ret
          exact ⟨rfl, rfl⟩
        · clear hc'
          go_wp2
          go_ret
          exact ⟨rfl, rfl⟩
    · obtain rfl : k = s.size := by omega
      have e := HE.out
      rw [HA.out, Bool.and_true] at e
      by_cases h1 : 1 ≤ s.size
      · by_cases h2 : s.size ≤ 40
        · rw [decide_eq_true ⟨h1, h2⟩] at e
          subst e
          go_wp2
          go_ret
          exact ⟨rb (by first | rfl | (simp; done) | (simp; omega)), rfl⟩
        · rw [decide_eq_false (fun c => h2 c.2)] at e
          subst e
          go_wp2
          go_ret
          exact ⟨rb (by first | rfl | (simp; done) | (simp; omega)), rfl⟩
      · rw [decide_eq_false (fun c => h1 c.1)] at e
        subst e
        go_wp2
        go_ret
        exact ⟨rb (by first | rfl | (simp; done) | (simp; omega)), rfl⟩
/-- which item a label is -/
def labV (l : List Itm) (s : ByteArray) : Int := match named l s with | none => -1 | some j => (j : Int)
theorem named_hit {l : List Itm} {k : Nat} {x : Itm} {s : ByteArray} (hx : l[k]? = some x) (h0 : namedTo l k s = none) (hn : isNamed s x = true) : labV l s = k := by
  obtain ⟨hk, e⟩ := List.getElem?_eq_some_iff.1 hx
  have h3 : l.drop k = x :: l.drop (k + 1) := by
    rw [List.drop_eq_getElem_cons hk, e]
  have hl : (l.take k).length = k := by simp; omega
  unfold namedTo at h0
  have : named l s = some k := by
    unfold named
    rw [← List.take_append_drop k l, List.findIdx?_append, h0, h3, List.findIdx?_cons, hn, hl]
    simp
  unfold labV
  rw [this]
theorem named_miss {l : List Itm} {s : ByteArray} (h0 : namedTo l l.length s = none) : labV l s = -1 := by
  unfold namedTo at h0
  rw [List.take_length] at h0
  unfold labV named
  rw [h0]
set_option maxHeartbeats 4000000 in
theorem labelR_any (b o c : Nat) (l : List Itm) (s : ByteArray) (w : World) (HI : Hid (ItemsAt w b o l)) (hm : l.length ≤ 9223372036854775807) :
    Calls Try.prog 37 #[.slice (some ⟨b, o, none⟩) l.length c, .string s] w fun e w' => e = .returned (.int .i64 (labV l s)) ∧ w = w' := by
  obtain ⟨r, hr⟩ : ∃ r, labV l s = r := ⟨_, rfl⟩
  rw [hr]
  have HR := Lib.hid hr
  clear hr
  go_enter Try.func37, Try.ntmps37
  go_wp2
  go_loop [5] (fun i => ∃ k : Nat, k ≤ l.length ∧ i = .int .i64 k ∧ Hid (namedTo l k s = none)) (fun i => l.length - (intOf i).toNat)
  case atStart => exact ⟨0, Nat.zero_le _, rfl, rfl⟩
  case round =>
    obtain ⟨k, hk, rfl, HA⟩ := hrel
    by_cases hlt : k < l.length
    · obtain ⟨kd, xo, xd, xa, xb, xn, xm, xs, hx⟩ := items_one (l := l) (k := k) hlt
      obtain ⟨c0, c1, c2, c3, c4, c5, c6, c7⟩ := HI.out.get hx
      have hsn := namedTo_succ hx s
      rw [HA.out] at hsn
      have HX := Lib.hid hx
      have HS := Lib.hid hsn
      have hk' : (k : Int) < l.length := by omega
      have HLT := Lib.hid hlt
      clear c1 c2 c3 c4 c5 c7 hx hsn hlt
      by_cases h2 : kd = 2
      · subst h2
        by_cases hn : xs = s
        · subst hn
          obtain rfl : r = k := HR.out.symm.trans (named_hit HX.out HA.out (isNamed_iff.2 ⟨rfl, rfl⟩))
          go_wp2
          go_ret
          exact ⟨rfl, rfl⟩
        · have e2 : (xs.toList == s.toList) = false := by simpa using (fun q => hn (bytes_list q) : ¬ xs.toList = s.toList)
          have HNN := Lib.hid hn
          clear hn
          go_wp2
          go_round
          case rel =>
            refine ⟨k + 1, HLT.out, by go_num, ?_⟩
            have := HS.out
            rw [show isNamed s ⟨2, ⟨xo, xd, xa, xb, xn⟩, xs, xm⟩ = false by unfold isNamed; simp [HNN.out]] at this
            exact this
          case measure => simp [intOf]; have := HLT.out; omega
      · have hk2 : (kd == 2) = false := by simpa using h2
        have HK2 := Lib.hid h2
        clear h2
        go_wp2
        go_round
        case rel =>
          refine ⟨k + 1, HLT.out, by go_num, ?_⟩
          have := HS.out
          rw [show isNamed s ⟨kd, ⟨xo, xd, xa, xb, xn⟩, xs, xm⟩ = false by unfold isNamed; simp [HK2.out]] at this
          exact this
        case measure => simp [intOf]; have := HLT.out; omega
    · obtain rfl : k = l.length := by omega
      obtain rfl : r = -1 := HR.out.symm.trans (named_miss HA.out)
      go_wp2
      go_ret
      exact ⟨rfl, rfl⟩
end Go.Proofs.Ytjjbfeoidceiiaa
/- Which items may be, as the document's own answer has it. -/
namespace Go.Proofs.Ytjjbfeoidceiiaa
open Go.RowKit Rv Lb
set_option linter.unusedVariables false
theorem eqlI_yes (d : Int) (w : World) : (binOp .eql 24 (.agg #[.int .i64 0, .int .i64 d, .int .i64 0, .int .i64 0, .int .i64 0]) (.agg #[.int .i64 0, .int .i64 d, .int .i64 0, .int .i64 0, .int .i64 0])).run Try.prog w = .ok (.bool true) w := by
  go_simp
theorem eqlI_no (o d a b n d' : Int) (h : ¬ (o = 0 ∧ d = d' ∧ a = 0 ∧ b = 0 ∧ n = 0)) (w : World) : (binOp .eql 24 (.agg #[.int .i64 o, .int .i64 d, .int .i64 a, .int .i64 b, .int .i64 n]) (.agg #[.int .i64 0, .int .i64 d', .int .i64 0, .int .i64 0, .int .i64 0])).run Try.prog w = .ok (.bool false) w := by
  go_simp
  intro h1 h2 h3 h4 h5
  exact h ⟨h1, h2, h3, h4, h5⟩
theorem eqlI (o d a b n d' : Int) (w : World) : (binOp .eql 24 (.agg #[.int .i64 o, .int .i64 d, .int .i64 a, .int .i64 b, .int .i64 n]) (.agg #[.int .i64 0, .int .i64 d', .int .i64 0, .int .i64 0, .int .i64 0])).run Try.prog w = .ok (.bool (onlyD ⟨o, d, a, b, n⟩ d')) w := by
  unfold onlyD
  by_cases h : o = 0 ∧ d = d' ∧ a = 0 ∧ b = 0 ∧ n = 0
  · rw [decide_eq_true h]
    obtain ⟨rfl, rfl, rfl, rfl, rfl⟩ := h
    exact eqlI_yes d w
  · rw [decide_eq_false h]
    exact eqlI_no o d a b n d' h w
theorem no_list {s : ByteArray} (h : ¬ s.size = 0) : (s.toList == []) = false := by
  cases e : s.toList with
  | nil =>
    exfalso
    rw [ByteArray.toList_eq] at e
    exact h (by have := congrArg List.length e; simpa using this)
  | cons x y => rfl
theorem labR_lit {s : ByteArray} {b : Bool} (h : isLab s = b) (hs : s.size ≤ maxLen) (w : World) : Calls Try.prog 46 #[.string s] w fun e w' => e = .returned (.bool b) ∧ w = w' := by
  subst h
  exact labR_any s hs w
set_option maxHeartbeats 2000000 in
theorem rightXR_1 (o d a b n m : Int) (s : ByteArray) (R : Bool) (HRX : Hid (rightX ⟨1, ⟨o, d, a, b, n⟩, s, m⟩ = R)) (w : World) :
    Calls Try.prog 24 #[.agg #[.int .i64 1, .int .i64 o, .int .i64 d, .int .i64 a, .int .i64 b, .int .i64 n, .string s, .int .i64 m]] w fun e w' => e = .returned (.bool R) ∧ Both w w' := by
  have hE := eqlI o d a b n 0
  obtain ⟨r, hr⟩ : ∃ r, right ⟨o, d, a, b, n⟩ = r := ⟨_, rfl⟩
  have HR := Lib.hid hr
  have hX := HRX.out
  unfold rightX at hX
  rw [if_pos rfl] at hX
  simp only [hr] at hX
  have HX := Lib.hid hX
  clear hr hX HRX
  generalize onlyD ⟨o, d, a, b, n⟩ 0 = z at hE
  go_enter Try.func24, Try.ntmps24
  go_wp2_with fail
  refine (rightR_val HR.out _).mono ?_
  rintro e W1 ⟨rfl, hb1⟩
  have hri := (hb1.1.block w.heap.size (by simp)).trans (heap_alloc_new _ _)
  have c6 := cell_of_heap hri 6
  have c7 := cell_of_heap hri 7
  simp only [List.getElem?_toArray, List.getElem?_cons_zero, List.getElem?_cons_succ] at c6 c7
  have HB := Lib.hid (((Both.refl w).alloc _ _).trans hb1)
  clear hb1 hri hE
  cases r with
  | false =>
    obtain rfl : R = false := by have := HX.out; rw [Bool.and_false] at this; exact this.symm
    clear c6 c7
    go_wp2
    go_ret
    exact ⟨rfl, HB.out⟩
  | true =>
    by_cases h0 : s.size = 0
    · obtain rfl := empty_of_size h0
      by_cases hm : m = 0
      · obtain rfl : R = true := by have := HX.out; subst hm; rw [← this]; rfl
        subst hm
        go_wp2
        go_ret
        exact ⟨rfl, HB.out⟩
      · obtain rfl : R = false := by have := HX.out; rw [decide_eq_false (fun c => hm c.2)] at this; exact this.symm
        have hm' : (m == 0) = false := by simpa using hm
        go_wp2
        go_ret
        exact ⟨rfl, HB.out⟩
    · obtain rfl : R = false := by have := HX.out; rw [decide_eq_false (fun c => h0 c.1)] at this; exact this.symm
      have hl := no_list h0
      clear c7
      go_wp2
      go_ret
      exact ⟨rfl, HB.out⟩
set_option maxHeartbeats 2000000 in
theorem rightXR_2 (o d a b n m : Int) (s : ByteArray) (hs : s.size ≤ maxLen) (R : Bool) (HRX : Hid (rightX ⟨2, ⟨o, d, a, b, n⟩, s, m⟩ = R)) (w : World) :
    Calls Try.prog 24 #[.agg #[.int .i64 2, .int .i64 o, .int .i64 d, .int .i64 a, .int .i64 b, .int .i64 n, .string s, .int .i64 m]] w fun e w' => e = .returned (.bool R) ∧ Both w w' := by
  have hE := eqlI o d a b n 0
  obtain ⟨r, hr⟩ : ∃ r, isLab s = r := ⟨_, rfl⟩
  have HR := Lib.hid hr
  have hX := HRX.out
  unfold rightX at hX
  rw [if_neg (by simp), if_pos rfl] at hX
  simp only [hr] at hX
  generalize onlyD ⟨o, d, a, b, n⟩ 0 = z at hE hX
  have HX := Lib.hid hX
  clear hr hX HRX
  cases z with
  | false =>
    obtain rfl : R = false := HX.out.symm
    go_enter Try.func24, Try.ntmps24
    go_wp2
    go_ret
    exact ⟨rfl, (Both.refl _).alloc _ _⟩
  | true =>
    by_cases hm : m = 0
    · obtain rfl : R = r := by have := HX.out; subst hm; rw [← this]; simp
      subst hm
      go_enter Try.func24, Try.ntmps24
      go_wp2_with (go_at_call 46; ((with_reducible refine (labR_lit HR.out hs _).mono ?_); rintro e w' ⟨rfl, rfl⟩))
      go_ret
      exact ⟨rfl, (Both.refl _).alloc _ _⟩
    · obtain rfl : R = false := by have := HX.out; rw [decide_eq_false hm] at this; exact this.symm
      have hm' : (m == 0) = false := by simpa using hm
      go_enter Try.func24, Try.ntmps24
      go_wp2
      go_ret
      exact ⟨rfl, (Both.refl _).alloc _ _⟩
set_option maxHeartbeats 4000000 in
theorem rightXR_3 (o d a b n m : Int) (s : ByteArray) (hs : s.size ≤ maxLen) (R : Bool) (HRX : Hid (rightX ⟨3, ⟨o, d, a, b, n⟩, s, m⟩ = R)) (w : World) :
    Calls Try.prog 24 #[.agg #[.int .i64 3, .int .i64 o, .int .i64 d, .int .i64 a, .int .i64 b, .int .i64 n, .string s, .int .i64 m]] w fun e w' => e = .returned (.bool R) ∧ Both w w' := by
  have hE := eqlI o d a b n 0
  obtain ⟨q, hq⟩ : ∃ q, isLab s = q := ⟨_, rfl⟩
  obtain ⟨r, hr⟩ : ∃ r, right ⟨o, d, a, b, n⟩ = r := ⟨_, rfl⟩
  have HQ := Lib.hid hq
  have HR := Lib.hid hr
  have hX := HRX.out
  unfold rightX leads at hX
  rw [if_neg (by simp), if_neg (by simp), if_pos rfl] at hX
  simp only [hr, hq] at hX
  have HX := Lib.hid hX
  clear hr hq hX HRX
  generalize onlyD ⟨o, d, a, b, n⟩ 0 = z at hE
  have hop : (o = 3 ∨ (5 ≤ o ∧ o ≤ 10)) ∨ (¬ o = 3 ∧ (o < 5 ∨ 10 < o)) := by omega
  go_enter Try.func24, Try.ntmps24
  go_wp2_with fail
  refine (rightR_val HR.out _).mono ?_
  rintro e W1 ⟨rfl, hb1⟩
  have hri := (hb1.1.block w.heap.size (by simp)).trans (heap_alloc_new _ _)
  have c1 := cell_of_heap hri 1
  have c5 := cell_of_heap hri 5
  have c6 := cell_of_heap hri 6
  have c7 := cell_of_heap hri 7
  simp only [List.getElem?_toArray, List.getElem?_cons_zero, List.getElem?_cons_succ] at c1 c5 c6 c7
  have HB := Lib.hid (((Both.refl w).alloc _ _).trans hb1)
  clear hb1 hri hE
  cases r with
  | false =>
    obtain rfl : R = false := by have := HX.out; simpa using this.symm
    clear c1 c5 c6 c7
    go_wp2
    go_ret
    exact ⟨rfl, HB.out⟩
  | true =>
    by_cases hn : n = 0
    · subst hn
      rcases hop with ho | ⟨h3, ho⟩
      · have hl : (decide (o = 3) || isB o) = true := by
          unfold isB
          rcases ho with h | h <;> simp [h]
        by_cases hm : m = 0
        · subst hm
          obtain rfl : R = q := by have := HX.out; rw [hl] at this; simpa using this.symm
          rcases ho with rfl | ⟨h5, h10⟩
          · go_wp2_with (go_at_call 46; ((with_reducible refine (labR_lit HQ.out hs _).mono ?_); rintro e w' ⟨rfl, rfl⟩))
            go_ret
            exact ⟨rfl, HB.out⟩
          · have h3 : (o == 3) = false := by simp; omega
            have t5 : decide (5 ≤ o) = true := decide_eq_true h5
            have t10 : decide (o ≤ 10) = true := decide_eq_true h10
            go_wp2_with (go_at_call 46; ((with_reducible refine (labR_lit HQ.out hs _).mono ?_); rintro e w' ⟨rfl, rfl⟩))
            go_ret
            exact ⟨rfl, HB.out⟩
        · obtain rfl : R = false := by have := HX.out; rw [decide_eq_false hm] at this; simpa using this.symm
          have hm' : (m == 0) = false := by simpa using hm
          rcases ho with rfl | ⟨h5, h10⟩
          · go_wp2
            go_ret
            exact ⟨rfl, HB.out⟩
          · have h3 : (o == 3) = false := by simp; omega
            have t5 : decide (5 ≤ o) = true := decide_eq_true h5
            have t10 : decide (o ≤ 10) = true := decide_eq_true h10
            go_wp2
            go_ret
            exact ⟨rfl, HB.out⟩
      · have hl : (decide (o = 3) || isB o) = false := by
          unfold isB
          rw [decide_eq_false h3, decide_eq_false (by omega)]
          rfl
        obtain rfl : R = false := by have := HX.out; rw [hl] at this; simpa using this.symm
        have h3' : (o == 3) = false := by simpa using h3
        rcases ho with h5 | h10
        · have t5 : decide (5 ≤ o) = false := decide_eq_false (by omega)
          have t5' : ¬ 5 ≤ o := by omega
          go_wp2
          go_ret
          exact ⟨rfl, HB.out⟩
        · have t5 : 5 ≤ o := by omega
          have t10 : decide (o ≤ 10) = false := decide_eq_false (by omega)
          have t10' : ¬ o ≤ 10 := by omega
          go_wp2
          go_ret
          exact ⟨rfl, HB.out⟩
    · obtain rfl : R = false := by have := HX.out; rw [decide_eq_false hn] at this; simpa using this.symm
      have hn' : (n == 0) = false := by simpa using hn
      go_wp2
      go_ret
      exact ⟨rfl, HB.out⟩
set_option maxHeartbeats 2000000 in
theorem rightXR_4 (o d a b n m : Int) (s : ByteArray) (R : Bool) (HRX : Hid (rightX ⟨4, ⟨o, d, a, b, n⟩, s, m⟩ = R)) (w : World) :
    Calls Try.prog 24 #[.agg #[.int .i64 4, .int .i64 o, .int .i64 d, .int .i64 a, .int .i64 b, .int .i64 n, .string s, .int .i64 m]] w fun e w' => e = .returned (.bool R) ∧ Both w w' := by
  have hE := eqlI o d a b n 0
  have hE2 := eqlI o d a b n d
  have hX := HRX.out
  unfold rightX at hX
  rw [if_neg (by simp), if_neg (by simp), if_neg (by simp), if_pos rfl] at hX
  simp only at hX
  have HX := Lib.hid hX
  clear hX HRX
  cases hz : onlyD ⟨o, d, a, b, n⟩ d with
  | false =>
    obtain rfl : R = false := by have := HX.out; rw [hz] at this; simpa using this.symm
    rw [hz] at hE2
    generalize onlyD ⟨o, d, a, b, n⟩ 0 = z at hE
    clear hz
    go_enter Try.func24, Try.ntmps24
    go_wp2
    go_ret
    exact ⟨rfl, (Both.refl _).alloc _ _⟩
  | true =>
    rw [hz] at hE2
    have HX2 : Hid ((decide (s.size = 0) && mayLoad d m) = R) := by have := HX.out; rw [hz, Bool.true_and] at this; exact this
    generalize onlyD ⟨o, d, a, b, n⟩ 0 = z at hE
    clear hz HX
    have hc : (d < 1 ∨ 31 < d ∨ ¬ s.size = 0 ∨ m < -2147483648 ∨ 2147483648 ≤ m) ∨ (1 ≤ d ∧ d ≤ 31 ∧ s.size = 0 ∧ -2147483648 ≤ m ∧ m < 2147483648) := by omega
    rcases hc with hc | ⟨d1, d2, h0, m1, m2⟩
    · obtain rfl : R = false := by
        have := HX2.out
        rw [← this]
        unfold mayLoad
        rw [Bool.and_eq_false_iff, decide_eq_false_iff_not, decide_eq_false_iff_not]
        omega
      by_cases d1 : 1 ≤ d
      · by_cases d2 : d ≤ 31
        · by_cases h0 : s.size = 0
          · obtain rfl := empty_of_size h0
            by_cases m1 : -2147483648 ≤ m
            · have m2 : ¬ m < 2147483648 := by omega
              have m3 : decide (m < 2147483648) = false := decide_eq_false m2
              clear hc
              go_enter Try.func24, Try.ntmps24
              go_wp2
              go_ret
              exact ⟨rfl, (Both.refl _).alloc _ _⟩
            · have m3 : decide (-2147483648 ≤ m) = false := decide_eq_false m1
              clear hc
              go_enter Try.func24, Try.ntmps24
              go_wp2
              go_ret
              exact ⟨rfl, (Both.refl _).alloc _ _⟩
          · have hl := no_list h0
            clear hc
            go_enter Try.func24, Try.ntmps24
            go_wp2
            go_ret
            exact ⟨rfl, (Both.refl _).alloc _ _⟩
        · have d3 : decide (d ≤ 31) = false := decide_eq_false d2
          clear hc
          go_enter Try.func24, Try.ntmps24
          go_wp2
          go_ret
          exact ⟨rfl, (Both.refl _).alloc _ _⟩
      · have d3 : decide (1 ≤ d) = false := decide_eq_false d1
        clear hc
        go_enter Try.func24, Try.ntmps24
        go_wp2
        go_ret
        exact ⟨rfl, (Both.refl _).alloc _ _⟩
    · obtain rfl : R = true := by
        have := HX2.out
        rw [← this]
        unfold mayLoad
        rw [Bool.and_eq_true, decide_eq_true_eq, decide_eq_true_eq]
        omega
      obtain rfl := empty_of_size h0
      go_enter Try.func24, Try.ntmps24
      go_wp2
      go_ret
      exact ⟨rfl, (Both.refl _).alloc _ _⟩
set_option maxHeartbeats 2000000 in
theorem rightXR_5 (o d a b n m : Int) (s : ByteArray) (R : Bool) (HRX : Hid (rightX ⟨5, ⟨o, d, a, b, n⟩, s, m⟩ = R)) (w : World) :
    Calls Try.prog 24 #[.agg #[.int .i64 5, .int .i64 o, .int .i64 d, .int .i64 a, .int .i64 b, .int .i64 n, .string s, .int .i64 m]] w fun e w' => e = .returned (.bool R) ∧ Both w w' := by
  have hE := eqlI o d a b n 0
  have hX := HRX.out
  unfold rightX at hX
  rw [if_neg (by simp), if_neg (by simp), if_neg (by simp), if_neg (by simp), if_pos rfl] at hX
  simp only at hX
  generalize onlyD ⟨o, d, a, b, n⟩ 0 = z at hE hX
  have HX := Lib.hid hX
  clear hX HRX
  cases z with
  | false =>
    obtain rfl : R = false := HX.out.symm
    go_enter Try.func24, Try.ntmps24
    go_wp2
    go_ret
    exact ⟨rfl, (Both.refl _).alloc _ _⟩
  | true =>
    by_cases h0 : s.size = 0
    · obtain rfl := empty_of_size h0
      by_cases m1 : 0 ≤ m
      · by_cases m2 : m ≤ 4096
        · obtain rfl : R = true := by have := HX.out; rw [decide_eq_true (show 0 ≤ m ∧ m ≤ 4096 from ⟨m1, m2⟩)] at this; exact this.symm
          go_enter Try.func24, Try.ntmps24
          go_wp2
          go_ret
          exact ⟨rfl, (Both.refl _).alloc _ _⟩
        · obtain rfl : R = false := by have := HX.out; rw [decide_eq_false (show ¬ (0 ≤ m ∧ m ≤ 4096) from fun c => m2 c.2)] at this; exact this.symm
          have m3 : decide (m ≤ 4096) = false := decide_eq_false m2
          go_enter Try.func24, Try.ntmps24
          go_wp2
          go_ret
          exact ⟨rfl, (Both.refl _).alloc _ _⟩
      · obtain rfl : R = false := by have := HX.out; rw [decide_eq_false (show ¬ (0 ≤ m ∧ m ≤ 4096) from fun c => m1 c.1)] at this; exact this.symm
        have m3 : decide (0 ≤ m) = false := decide_eq_false m1
        go_enter Try.func24, Try.ntmps24
        go_wp2
        go_ret
        exact ⟨rfl, (Both.refl _).alloc _ _⟩
    · obtain rfl : R = false := by have := HX.out; rw [decide_eq_false h0] at this; simpa using this.symm
      have hl := no_list h0
      go_enter Try.func24, Try.ntmps24
      go_wp2
      go_ret
      exact ⟨rfl, (Both.refl _).alloc _ _⟩
set_option maxHeartbeats 2000000 in
theorem rightXR_no (k o d a b n m : Int) (s : ByteArray) (h1 : ¬ k = 1) (h2 : ¬ k = 2) (h3 : ¬ k = 3) (h4 : ¬ k = 4) (h5 : ¬ k = 5) (w : World) :
    Calls Try.prog 24 #[.agg #[.int .i64 k, .int .i64 o, .int .i64 d, .int .i64 a, .int .i64 b, .int .i64 n, .string s, .int .i64 m]] w fun e w' => e = .returned (.bool false) ∧ Both w w' := by
  have hE := eqlI o d a b n 0
  generalize onlyD ⟨o, d, a, b, n⟩ 0 = z at hE
  have g1 : (k == 1) = false := by simpa using h1
  have g2 : (k == 2) = false := by simpa using h2
  have g3 : (k == 3) = false := by simpa using h3
  have g4 : (k == 4) = false := by simpa using h4
  have g5 : (k == 5) = false := by simpa using h5
  clear h1 h2 h3 h4 h5
  go_enter Try.func24, Try.ntmps24
  go_wp2
  go_ret
  exact ⟨rfl, (Both.refl _).alloc _ _⟩
/-- the document's Right is the same -/
theorem rightXR_any (k o d a b n m : Int) (s : ByteArray) (hs : s.size ≤ maxLen) (w : World) :
    Calls Try.prog 24 #[.agg #[.int .i64 k, .int .i64 o, .int .i64 d, .int .i64 a, .int .i64 b, .int .i64 n, .string s, .int .i64 m]] w fun e w' => e = .returned (.bool (rightX ⟨k, ⟨o, d, a, b, n⟩, s, m⟩)) ∧ Both w w' := by
  by_cases h1 : k = 1
  · subst h1; exact rightXR_1 o d a b n m s _ rfl w
  by_cases h2 : k = 2
  · subst h2; exact rightXR_2 o d a b n m s hs _ rfl w
  by_cases h3 : k = 3
  · subst h3; exact rightXR_3 o d a b n m s hs _ rfl w
  by_cases h4 : k = 4
  · subst h4; exact rightXR_4 o d a b n m s _ rfl w
  by_cases h5 : k = 5
  · subst h5; exact rightXR_5 o d a b n m s _ rfl w
  have e : rightX ⟨k, ⟨o, d, a, b, n⟩, s, m⟩ = false := by
    unfold rightX
    rw [if_neg h1, if_neg h2, if_neg h3, if_neg h4, if_neg h5]
  rw [e]
  exact rightXR_no k o d a b n m s h1 h2 h3 h4 h5 w
end Go.Proofs.Ytjjbfeoidceiiaa
