/- The document of layer 14, its own Step, and package hart's: the same of every hart that may be. -/
import Derived.Test.YtgcgdjmlngfpeaaDoorHRes
import Derived.Test.YtgcgdjmlngfpeaaDoorHPl2
namespace Go.Proofs.YtgcgdjmlngfpeaaDoor
open Go.RowKit Ht
open Rv (Ins)
set_option linter.unusedVariables false
set_option linter.unusedSimpArgs false
theorem two6_and {x y : Int} (hx : -2147483648 ≤ x ∧ x ≤ 2147483647) (hy : -2147483648 ≤ y ∧ y ≤ 2147483647) : Plain.two 6 x y = bits .and .i64 x y := by
  obtain ⟨v, rfl⟩ := v_of hx
  obtain ⟨u, rfl⟩ := v_of hy
  rw [v_and]
  show (BitVec.ofInt 32 v.toInt &&& BitVec.ofInt 32 u.toInt).toInt = _
  rw [Plain.ofInt_toInt, Plain.ofInt_toInt]
theorem two7_or {x y : Int} (hx : -2147483648 ≤ x ∧ x ≤ 2147483647) (hy : -2147483648 ≤ y ∧ y ≤ 2147483647) : Plain.two 7 x y = bits .or .i64 x y := by
  obtain ⟨v, rfl⟩ := v_of hx
  obtain ⟨u, rfl⟩ := v_of hy
  rw [v_or]
  show (BitVec.ofInt 32 v.toInt ||| BitVec.ofInt 32 u.toInt).toInt = _
  rw [Plain.ofInt_toInt, Plain.ofInt_toInt]
theorem two6_not {x y : Int} (hx : -2147483648 ≤ x ∧ x ≤ 2147483647) (hy : -2147483648 ≤ y ∧ y ≤ 2147483647) : Plain.two 6 x (Plain.one 17 y) = bits .andNot .i64 x y := by
  obtain ⟨v, rfl⟩ := v_of hx
  obtain ⟨u, rfl⟩ := v_of hy
  rw [v_andNot]
  have e : Plain.one 17 u.toInt = (~~~ u).toInt := by
    show -wrap32 u.toInt - 1 = _
    rw [Plain.not_cut, Plain.ofInt_toInt]
  rw [e]
  show (BitVec.ofInt 32 v.toInt &&& BitVec.ofInt 32 (~~~ u).toInt).toInt = _
  rw [Plain.ofInt_toInt, Plain.ofInt_toInt]
theorem bits_b (op : Nat) {x y : Int} (hx : -2147483648 ≤ x ∧ x ≤ 2147483647) (hy : -2147483648 ≤ y ∧ y ≤ 2147483647) (o : Int) (ho : o = 40 ∨ o = 41 ∨ o = 42) : -2147483648 ≤ csrZ o x y ∧ csrZ o x y ≤ 2147483647 := by
  obtain ⟨v, rfl⟩ := v_of hx
  obtain ⟨u, rfl⟩ := v_of hy
  rcases ho with rfl | rfl | rfl
  · exact hy
  · show -2147483648 ≤ bits .or .i64 _ _ ∧ bits .or .i64 _ _ ≤ 2147483647
    rw [v_or]
    exact bv32_bd _
  · show -2147483648 ≤ bits .andNot .i64 _ _ ∧ bits .andNot .i64 _ _ ≤ 2147483647
    rw [v_andNot]
    exact bv32_bd _
theorem low_even (z : Int) : Plain.two 6 (IntKind.i64.wrap z) (-2) = bits .andNot .i64 (wrap32 z) 1 := by
  have e1 : (1 : Int) = (1#32).toInt := by decide
  have e2 : BitVec.ofInt 32 (-2) = ~~~ 1#32 := by decide
  rw [← Plain.toInt_ofInt z, e1, v_andNot]
  show (BitVec.ofInt 32 (IntKind.i64.wrap z) &&& BitVec.ofInt 32 (-2)).toInt = _
  rw [e2]
  have e3 : BitVec.ofInt 32 (IntKind.i64.wrap z) = BitVec.ofInt 32 z := by
    apply BitVec.eq_of_toNat_eq
    rw [BitVec.toNat_ofInt, BitVec.toNat_ofInt, IntKind.wrap_i64]
    omega
  rw [e3]
theorem md_in (n : Int) : wrap32 (n % 4294967296) = wrap32 n := by unfold wrap32; omega
theorem go_put (h : H) (d x : Int) : Ht.go (put h d x) 4 = up (put h d x) 32 (wrap32 (h 32 + 4)) := by
  unfold Ht.go place
  rw [put_ne (.inr (.inr (by decide)))]
theorem put_cong (h : H) (d : Int) {x y : Int} (e : wrap32 x = wrap32 y) : put h d x = put h d y := by unfold put; rw [e]
theorem back_st {s : Int} (hs : s = 0 ∨ s = 8 ∨ s = 128 ∨ s = 136) : IntKind.i64.wrap (128 + IntKind.i64.wrap (8 * (IntKind.i64.wrap (s.tdiv 128)).tmod 2)) = backS s := by
  rcases hs with rfl | rfl | rfl | rfl <;> decide +kernel
theorem trap_st {s : Int} (hs : s = 0 ∨ s = 8 ∨ s = 128 ∨ s = 136) : IntKind.i64.wrap (128 * (IntKind.i64.wrap (s.tdiv 8)).tmod 2) = trapS s := by
  rcases hs with rfl | rfl | rfl | rfl <;> decide +kernel
theorem lets_st {s : Int} (hs : s = 0 ∨ s = 8 ∨ s = 128 ∨ s = 136) : ((IntKind.i64.wrap (s.tdiv 8)).tmod 2 = 1) = (bits .and .i64 s 8 ≠ 0) := by
  rcases hs with rfl | rfl | rfl | rfl <;> exact propext (by decide +kernel)
theorem rtrap_fine {h h' : H} (fine : Fine h) {c m s z : Int} (hm : wrap32 c = m) (hs : h 33 = s) (hz : trapS s = z) (e : up (up (up (up h 36 (h 32)) 37 m) 32 (h 34)) 33 z = h') (w : World) : Calls Tryd.prog 21 #[hv h, .int .i64 c] w (OneV (hv h') w) :=
  rtrap_lit hm rfl rfl (by rw [trap_st fine.st, hs]; exact hz) e w
theorem rlets_fine {h : H} (fine : Fine h) {p : Int} {r : Bool} (e : (decide (bits .and .i64 (h 33) 8 ≠ 0) && decide (h 38 < p)) = r) (w : World) : Calls Tryd.prog 23 #[hv h, .int .i64 p] w (OneV (.bool r) w) := by
  have hl := lets_st fine.st
  by_cases c : bits .and .i64 (h 33) 8 ≠ 0
  · rw [decide_eq_true c, Bool.true_and] at e
    exact rlets_true rfl rfl (hl.mpr c) e w
  · rw [decide_eq_false c, Bool.false_and] at e
    subst e
    exact rlets_false (r := true) rfl rfl (fun k => c (hl.mp k)) w
theorem sv_num {h : H} {id o d n : Int} {A B : Nat} (RT : Rv.right ⟨o, d, A, B, n⟩ = true) (hn : o ≠ 3 ∧ o ≠ 4 ∧ ¬ (5 ≤ o ∧ o ≤ 10) ∧ o ≠ 44 ∧ ¬ (40 ≤ o ∧ o ≤ 42) ∧ ¬ isEff o) : stepV h id ⟨o, d, A, B, n⟩ = (Ht.go (put h d (numV h o A B n)) 4, e0) := by
  obtain ⟨n1, n2, n3, n4, n5, n6⟩ := hn
  unfold stepV
  rw [if_neg (by rw [RT]; decide), if_neg n1, if_neg n2, if_neg n3, if_neg n4, if_neg n5, if_neg n6]
  simp only [Int.toNat_natCast]
theorem numV_two {h : H} {o n k : Int} {A B : Nat} (hn : o ≠ 1 ∧ o ≠ 2 ∧ ¬ (o = 20 ∨ o = 28) ∧ o ≠ 33 ∧ o ≠ 34 ∧ o ≠ 36 ∧ o ≠ 38) (hk : opOf o = k) : numV h o A B n = Plain.two k (h A) (if (B : Int) = 0 then n else h B) := by
  obtain ⟨n1, n2, n3, n4, n5, n6, n7⟩ := hn
  unfold numV
  rw [if_neg n1, if_neg n2, if_neg n3, if_neg n4, if_neg n5, if_neg n6, if_neg n7, hk]
theorem numV_shr {h : H} {o n : Int} {A B : Nat} (hn : o = 20 ∨ o = 28) : numV h o A B n = h A % 4294967296 / 2 ^ ((if (B : Int) = 0 then n else h B) % 32).toNat := by
  unfold numV
  rw [if_neg (by omega), if_neg (by omega), if_pos hn]
theorem numV_33 {h : H} {n : Int} {A B : Nat} : numV h 33 A B n = Plain.high (h A) (if (B : Int) = 0 then n else h B) true := by
  unfold numV
  rw [if_neg (by omega), if_neg (by omega), if_neg (by omega), if_pos rfl]
theorem numV_34 {h : H} {n : Int} {A B : Nat} : numV h 34 A B n = Plain.high (h A) (if (B : Int) = 0 then n else h B) false := by
  unfold numV
  rw [if_neg (by omega), if_neg (by omega), if_neg (by omega), if_neg (by omega), if_pos rfl]
theorem numV_36 {h : H} {n : Int} {A B : Nat} : numV h 36 A B n = (if (if (B : Int) = 0 then n else h B) % 4294967296 = 0 then -1 else h A % 4294967296 / ((if (B : Int) = 0 then n else h B) % 4294967296)) := by
  unfold numV
  rw [if_neg (by omega), if_neg (by omega), if_neg (by omega), if_neg (by omega), if_neg (by omega), if_pos rfl]
theorem numV_38 {h : H} {n : Int} {A B : Nat} : numV h 38 A B n = (if (if (B : Int) = 0 then n else h B) % 4294967296 = 0 then h A % 4294967296 else h A % 4294967296 % ((if (B : Int) = 0 then n else h B) % 4294967296)) := by
  unfold numV
  rw [if_neg (by omega), if_neg (by omega), if_neg (by omega), if_neg (by omega), if_neg (by omega), if_neg (by omega), if_pos rfl]
theorem rctl_some {h : H} {n bt : Int} {k : Nat} (hk : csrK n = some (k, bt)) : (∀ (id : Int) (w : World), Calls Tryd.prog 70 #[hv h, .int .i64 id, .int .i64 n] w (OneV (.tuple #[.int .i64 (h k), .bool true]) w)) ∧
    (∀ (h : H) (z : Int), -2147483648 ≤ z ∧ z ≤ 2147483647 → ∀ w : World, Calls Tryd.prog 72 #[hv h, .int .i64 n, .int .i64 z] w (OneV (hv (up h k (bits .and .i64 z bt))) w)) := by
  unfold csrK at hk
  by_cases c0 : n = 768
  · rw [if_pos c0] at hk
    injection hk with hk
    injection hk with h1 h2
    subst c0 h1 h2
    exact ⟨fun id w => rctl_768 h id w, fun h z hz w => rset_768 rfl rfl (by rw [two6_and hz (by omega)]) w⟩
  rw [if_neg c0] at hk
  by_cases c1 : n = 773
  · rw [if_pos c1] at hk
    injection hk with hk
    injection hk with h1 h2
    subst c1 h1 h2
    exact ⟨fun id w => rctl_773 h id w, fun h z hz w => rset_773 rfl rfl (by rw [two6_and hz (by omega)]) w⟩
  rw [if_neg c1] at hk
  by_cases c2 : n = 832
  · rw [if_pos c2] at hk
    injection hk with hk
    injection hk with h1 h2
    subst c2 h1 h2
    exact ⟨fun id w => rctl_832 h id w, fun h z hz w => rset_832 rfl rfl (by rw [and_ones hz]) w⟩
  rw [if_neg c2] at hk
  by_cases c3 : n = 833
  · rw [if_pos c3] at hk
    injection hk with hk
    injection hk with h1 h2
    subst c3 h1 h2
    exact ⟨fun id w => rctl_833 h id w, fun h z hz w => rset_833 rfl rfl (by rw [two6_and hz (by omega)]) w⟩
  rw [if_neg c3] at hk
  by_cases c4 : n = 834
  · rw [if_pos c4] at hk
    injection hk with hk
    injection hk with h1 h2
    subst c4 h1 h2
    exact ⟨fun id w => rctl_834 h id w, fun h z hz w => rset_834 rfl rfl (by rw [and_ones hz]) w⟩
  rw [if_neg c4] at hk
  by_cases c5 : n = 1984
  · rw [if_pos c5] at hk
    injection hk with hk
    injection hk with h1 h2
    subst c5 h1 h2
    exact ⟨fun id w => rctl_1984 h id w, fun h z hz w => rset_1984 rfl rfl (by rw [and_ones hz]) w⟩
  rw [if_neg c5] at hk
  cases hk
theorem k_1 {h h' : H} (fine : Fine h) {id d n : Int} {A B : Nat} {e : Eff} (RT : Rv.right ⟨1, d, A, B, n⟩ = true) (lA : A < 32) (he : stepV h id ⟨1, d, A, B, n⟩ = (h', e)) :
    ∃ q1 h1, IntKind.i64.wrap (4096 * n) = q1 ∧ put h d q1 = h1 ∧ h' = up h1 32 (wrap32 (h 32 + 4)) ∧ e = e0 := by
  have e1 : stepV h id ⟨1, d, A, B, n⟩ = (Ht.go (put h d (wrap64 (n * 4096))) 4, e0) := by
    unfold stepV
    rw [RT]
    rfl
  rw [e1] at he
  injection he with a1 a2
  subst a1 a2
  exact ⟨_, put h d (wrap64 (n * 4096)), rfl, put_cong h d (by rw [Int.mul_comm n 4096, IntWalk.i64_left]), go_put _ _ _, rfl⟩
theorem k_2 {h h' : H} (fine : Fine h) {id d n : Int} {A B : Nat} {e : Eff} (RT : Rv.right ⟨2, d, A, B, n⟩ = true) (lA : A < 32) (he : stepV h id ⟨2, d, A, B, n⟩ = (h', e)) :
    ∃ q1 v h1, IntKind.i64.wrap (4096 * n) = q1 ∧ IntKind.i64.wrap (h 32 + q1) = v ∧ put h d v = h1 ∧ h' = up h1 32 (wrap32 (h 32 + 4)) ∧ e = e0 := by
  have e1 : stepV h id ⟨2, d, A, B, n⟩ = (Ht.go (put h d (place h (wrap64 (n * 4096)))) 4, e0) := by
    unfold stepV
    rw [RT]
    rfl
  rw [e1] at he
  injection he with a1 a2
  subst a1 a2
  refine ⟨_, _, put h d (place h (wrap64 (n * 4096))), rfl, rfl, put_cong h d ?_, go_put _ _ _, rfl⟩
  unfold place
  rw [Plain.w32_w32, IntWalk.i64_left, Plain.w32_w64, IntWalk.i64_left, Int.mul_comm]
theorem k_3 {h h' : H} (fine : Fine h) {id d n : Int} {A B : Nat} {e : Eff} (RT : Rv.right ⟨3, d, A, B, n⟩ = true) (lA : A < 32) (he : stepV h id ⟨3, d, A, B, n⟩ = (h', e)) :
    ∃ h1, put h d (wrap32 (h 32 + 4)) = h1 ∧ h' = up h1 32 (wrap32 (h 32 + n)) ∧ e = e0 := by
  have e1 : stepV h id ⟨3, d, A, B, n⟩ = (up (put h d (place h 4)) 32 (place h n), e0) := by
    unfold stepV
    rw [RT]
    rfl
  rw [e1] at he
  injection he with a1 a2
  subst a1 a2
  exact ⟨_, rfl, rfl, rfl⟩
theorem k_4 {h h' : H} (fine : Fine h) {id d n : Int} {A B : Nat} {e : Eff} (RT : Rv.right ⟨4, d, A, B, n⟩ = true) (lA : A < 32) (he : stepV h id ⟨4, d, A, B, n⟩ = (h', e)) :
    ∃ h1 q1 v, put h d (wrap32 (h 32 + 4)) = h1 ∧ IntKind.i64.wrap (h A + n) = q1 ∧ Plain.two 6 q1 (-2) = v ∧ h' = up h1 32 v ∧ e = e0 := by
  have e1 : stepV h id ⟨4, d, A, B, n⟩ = (up (put h d (place h 4)) 32 (bits .andNot .i64 (wrap32 (h A + n)) 1), e0) := by
    unfold stepV
    rw [RT]
    rfl
  rw [e1] at he
  injection he with a1 a2
  subst a1 a2
  exact ⟨_, _, _, rfl, rfl, low_even _, rfl, rfl⟩
theorem k_5 {h h' : H} (fine : Fine h) {id d n : Int} {A B : Nat} {e : Eff} (RT : Rv.right ⟨5, d, A, B, n⟩ = true) (lA : A < 32) (he : stepV h id ⟨5, d, A, B, n⟩ = (h', e)) :
    ∃ q : Bool, (∀ W, Calls Tryd.prog 43 #[.int .i64 5, .int .i64 (h A), .int .i64 (h B)] W (OneV (.bool q) W)) ∧ h' = up h 32 (if q = true then wrap32 (h 32 + n) else wrap32 (h 32 + 4)) ∧ e = e0 := by
  have e1 : stepV h id ⟨5, d, A, B, n⟩ = (Ht.go h (if leadsV h 5 A B = true then n else 4), e0) := by
    unfold stepV
    rw [RT]
    rfl
  rw [e1] at he
  injection he with a1 a2
  subst a1 a2
  have hq : leadsV h 5 A B = decide (h A = h B) := by
    show decide (Plain.two 13 (h A) (h B) ≠ 0) = _
    have e1 := Plain.w32_in _ (fine.in32 A)
    have e2 := Plain.w32_in _ (fine.in32 B)
    show decide ((if wrap32 (h A) = wrap32 (h B) then (1 : Int) else 0) ≠ 0) = _
    rw [e1, e2]
    split <;> rename_i c <;> (apply decide_eq_decide.2; constructor <;> intro k <;> first | omega | (exact absurd rfl k) | (exact c) | (exact absurd k c) | (intro; omega) | (simp at k))
  refine ⟨leadsV h 5 A B, fun W => goes_5 hq.symm W, ?_, rfl⟩
  cases leadsV h 5 A B <;> rfl
theorem k_6 {h h' : H} (fine : Fine h) {id d n : Int} {A B : Nat} {e : Eff} (RT : Rv.right ⟨6, d, A, B, n⟩ = true) (lA : A < 32) (he : stepV h id ⟨6, d, A, B, n⟩ = (h', e)) :
    ∃ q : Bool, (∀ W, Calls Tryd.prog 43 #[.int .i64 6, .int .i64 (h A), .int .i64 (h B)] W (OneV (.bool q) W)) ∧ h' = up h 32 (if q = true then wrap32 (h 32 + n) else wrap32 (h 32 + 4)) ∧ e = e0 := by
  have e1 : stepV h id ⟨6, d, A, B, n⟩ = (Ht.go h (if leadsV h 6 A B = true then n else 4), e0) := by
    unfold stepV
    rw [RT]
    rfl
  rw [e1] at he
  injection he with a1 a2
  subst a1 a2
  have hq : leadsV h 6 A B = decide (h A ≠ h B) := by
    show decide (Plain.two 14 (h A) (h B) ≠ 0) = _
    have e1 := Plain.w32_in _ (fine.in32 A)
    have e2 := Plain.w32_in _ (fine.in32 B)
    show decide ((if wrap32 (h A) ≠ wrap32 (h B) then (1 : Int) else 0) ≠ 0) = _
    rw [e1, e2]
    split <;> rename_i c <;> (apply decide_eq_decide.2; constructor <;> intro k <;> first | omega | (exact absurd rfl k) | (exact c) | (exact absurd k c) | (intro; omega) | (simp at k))
  refine ⟨leadsV h 6 A B, fun W => goes_6 hq.symm W, ?_, rfl⟩
  cases leadsV h 6 A B <;> rfl
theorem k_7 {h h' : H} (fine : Fine h) {id d n : Int} {A B : Nat} {e : Eff} (RT : Rv.right ⟨7, d, A, B, n⟩ = true) (lA : A < 32) (he : stepV h id ⟨7, d, A, B, n⟩ = (h', e)) :
    ∃ q : Bool, (∀ W, Calls Tryd.prog 43 #[.int .i64 7, .int .i64 (h A), .int .i64 (h B)] W (OneV (.bool q) W)) ∧ h' = up h 32 (if q = true then wrap32 (h 32 + n) else wrap32 (h 32 + 4)) ∧ e = e0 := by
  have e1 : stepV h id ⟨7, d, A, B, n⟩ = (Ht.go h (if leadsV h 7 A B = true then n else 4), e0) := by
    unfold stepV
    rw [RT]
    rfl
  rw [e1] at he
  injection he with a1 a2
  subst a1 a2
  have hq : leadsV h 7 A B = decide (h A < h B) := by
    show decide (Plain.two 11 (h A) (h B) ≠ 0) = _
    have e1 := Plain.w32_in _ (fine.in32 A)
    have e2 := Plain.w32_in _ (fine.in32 B)
    show decide ((if wrap32 (h A) < wrap32 (h B) then (1 : Int) else 0) ≠ 0) = _
    rw [e1, e2]
    split <;> rename_i c <;> (apply decide_eq_decide.2; constructor <;> intro k <;> first | omega | (exact absurd rfl k) | (exact c) | (exact absurd k c) | (intro; omega) | (simp at k))
  refine ⟨leadsV h 7 A B, fun W => goes_7 hq.symm W, ?_, rfl⟩
  cases leadsV h 7 A B <;> rfl
theorem k_8 {h h' : H} (fine : Fine h) {id d n : Int} {A B : Nat} {e : Eff} (RT : Rv.right ⟨8, d, A, B, n⟩ = true) (lA : A < 32) (he : stepV h id ⟨8, d, A, B, n⟩ = (h', e)) :
    ∃ q : Bool, (∀ W, Calls Tryd.prog 43 #[.int .i64 8, .int .i64 (h A), .int .i64 (h B)] W (OneV (.bool q) W)) ∧ h' = up h 32 (if q = true then wrap32 (h 32 + n) else wrap32 (h 32 + 4)) ∧ e = e0 := by
  have e1 : stepV h id ⟨8, d, A, B, n⟩ = (Ht.go h (if leadsV h 8 A B = true then n else 4), e0) := by
    unfold stepV
    rw [RT]
    rfl
  rw [e1] at he
  injection he with a1 a2
  subst a1 a2
  have hq : leadsV h 8 A B = decide (h B ≤ h A) := by
    show decide (Plain.two 11 (h A) (h B) = 0) = _
    have e1 := Plain.w32_in _ (fine.in32 A)
    have e2 := Plain.w32_in _ (fine.in32 B)
    show decide ((if wrap32 (h A) < wrap32 (h B) then (1 : Int) else 0) = 0) = _
    rw [e1, e2]
    split <;> rename_i c <;> (apply decide_eq_decide.2; constructor <;> intro k <;> first | omega | (exact absurd rfl k) | (exact c) | (exact absurd k c) | (intro; omega) | (simp at k))
  refine ⟨leadsV h 8 A B, fun W => goes_8 hq.symm W, ?_, rfl⟩
  cases leadsV h 8 A B <;> rfl
theorem k_9 {h h' : H} (fine : Fine h) {id d n : Int} {A B : Nat} {e : Eff} (RT : Rv.right ⟨9, d, A, B, n⟩ = true) (lA : A < 32) (he : stepV h id ⟨9, d, A, B, n⟩ = (h', e)) :
    ∃ q : Bool, (∀ W, Calls Tryd.prog 43 #[.int .i64 9, .int .i64 (h A), .int .i64 (h B)] W (OneV (.bool q) W)) ∧ h' = up h 32 (if q = true then wrap32 (h 32 + n) else wrap32 (h 32 + 4)) ∧ e = e0 := by
  have e1 : stepV h id ⟨9, d, A, B, n⟩ = (Ht.go h (if leadsV h 9 A B = true then n else 4), e0) := by
    unfold stepV
    rw [RT]
    rfl
  rw [e1] at he
  injection he with a1 a2
  subst a1 a2
  have hq : leadsV h 9 A B = decide (h A % 4294967296 < h B % 4294967296) := by
    show decide (Plain.two 12 (h A) (h B) ≠ 0) = _
    have e1 := Plain.w32_in _ (fine.in32 A)
    have e2 := Plain.w32_in _ (fine.in32 B)
    show decide ((if h A % 4294967296 < h B % 4294967296 then (1 : Int) else 0) ≠ 0) = _
    
    split <;> rename_i c <;> (apply decide_eq_decide.2; constructor <;> intro k <;> first | omega | (exact absurd rfl k) | (exact c) | (exact absurd k c) | (intro; omega) | (simp at k))
  refine ⟨leadsV h 9 A B, fun W => goes_9 hq.symm W, ?_, rfl⟩
  cases leadsV h 9 A B <;> rfl
theorem k_10 {h h' : H} (fine : Fine h) {id d n : Int} {A B : Nat} {e : Eff} (RT : Rv.right ⟨10, d, A, B, n⟩ = true) (lA : A < 32) (he : stepV h id ⟨10, d, A, B, n⟩ = (h', e)) :
    ∃ q : Bool, (∀ W, Calls Tryd.prog 43 #[.int .i64 10, .int .i64 (h A), .int .i64 (h B)] W (OneV (.bool q) W)) ∧ h' = up h 32 (if q = true then wrap32 (h 32 + n) else wrap32 (h 32 + 4)) ∧ e = e0 := by
  have e1 : stepV h id ⟨10, d, A, B, n⟩ = (Ht.go h (if leadsV h 10 A B = true then n else 4), e0) := by
    unfold stepV
    rw [RT]
    rfl
  rw [e1] at he
  injection he with a1 a2
  subst a1 a2
  have hq : leadsV h 10 A B = decide (h B % 4294967296 ≤ h A % 4294967296) := by
    show decide (Plain.two 12 (h A) (h B) = 0) = _
    have e1 := Plain.w32_in _ (fine.in32 A)
    have e2 := Plain.w32_in _ (fine.in32 B)
    show decide ((if h A % 4294967296 < h B % 4294967296 then (1 : Int) else 0) = 0) = _
    
    split <;> rename_i c <;> (apply decide_eq_decide.2; constructor <;> intro k <;> first | omega | (exact absurd rfl k) | (exact c) | (exact absurd k c) | (intro; omega) | (simp at k))
  refine ⟨leadsV h 10 A B, fun W => goes_10 hq.symm W, ?_, rfl⟩
  cases leadsV h 10 A B <;> rfl
theorem k_39 {h h' : H} (fine : Fine h) {id d n : Int} {A B : Nat} {e : Eff} (RT : Rv.right ⟨39, d, A, B, n⟩ = true) (lA : A < 32) (he : stepV h id ⟨39, d, A, B, n⟩ = (h', e)) :
    h' = up h 32 (wrap32 (h 32 + 4)) ∧ e = ⟨6, 0, 0, 0, 0⟩ := by
  have e1 : stepV h id ⟨39, d, A, B, n⟩ = (Ht.go h 4, ⟨6, 0, 0, 0, 0⟩) := by
    unfold stepV
    rw [RT]
    rfl
  rw [e1] at he
  injection he with a1 a2
  subst a1 a2
  exact ⟨rfl, rfl⟩
theorem k_46 {h h' : H} (fine : Fine h) {id d n : Int} {A B : Nat} {e : Eff} (RT : Rv.right ⟨46, d, A, B, n⟩ = true) (lA : A < 32) (he : stepV h id ⟨46, d, A, B, n⟩ = (h', e)) :
    h' = up h 32 (wrap32 (h 32 + 4)) ∧ e = ⟨3, d, h A, 0, 0⟩ := by
  have e1 : stepV h id ⟨46, d, A, B, n⟩ = (Ht.go h 4, ⟨3, d, h A, 0, 0⟩) := by
    unfold stepV
    rw [RT]
    rfl
  rw [e1] at he
  injection he with a1 a2
  subst a1 a2
  exact ⟨rfl, rfl⟩
theorem k_47 {h h' : H} (fine : Fine h) {id d n : Int} {A B : Nat} {e : Eff} (RT : Rv.right ⟨47, d, A, B, n⟩ = true) (lA : A < 32) (he : stepV h id ⟨47, d, A, B, n⟩ = (h', e)) :
    h' = up h 32 (wrap32 (h 32 + 4)) ∧ e = ⟨4, d, h A, h B, 0⟩ := by
  have e1 : stepV h id ⟨47, d, A, B, n⟩ = (Ht.go h 4, ⟨4, d, h A, h B, 0⟩) := by
    unfold stepV
    rw [RT]
    rfl
  rw [e1] at he
  injection he with a1 a2
  subst a1 a2
  exact ⟨rfl, rfl⟩
theorem k_48 {h h' : H} (fine : Fine h) {id d n : Int} {A B : Nat} {e : Eff} (RT : Rv.right ⟨48, d, A, B, n⟩ = true) (lA : A < 32) (he : stepV h id ⟨48, d, A, B, n⟩ = (h', e)) :
    h' = up h 32 (wrap32 (h 32 + 4)) ∧ e = ⟨5, d, h A, h B, 0⟩ := by
  have e1 : stepV h id ⟨48, d, A, B, n⟩ = (Ht.go h 4, ⟨5, d, h A, h B, 0⟩) := by
    unfold stepV
    rw [RT]
    rfl
  rw [e1] at he
  injection he with a1 a2
  subst a1 a2
  exact ⟨rfl, rfl⟩
theorem k_49 {h h' : H} (fine : Fine h) {id d n : Int} {A B : Nat} {e : Eff} (RT : Rv.right ⟨49, d, A, B, n⟩ = true) (lA : A < 32) (he : stepV h id ⟨49, d, A, B, n⟩ = (h', e)) :
    h' = up h 32 (wrap32 (h 32 + 4)) ∧ e = ⟨5, d, h A, h B, 1⟩ := by
  have e1 : stepV h id ⟨49, d, A, B, n⟩ = (Ht.go h 4, ⟨5, d, h A, h B, 1⟩) := by
    unfold stepV
    rw [RT]
    rfl
  rw [e1] at he
  injection he with a1 a2
  subst a1 a2
  exact ⟨rfl, rfl⟩
theorem k_43 {h h' : H} (fine : Fine h) {id d n : Int} {A B : Nat} {e : Eff} (RT : Rv.right ⟨43, d, A, B, n⟩ = true) (lA : A < 32) (he : stepV h id ⟨43, d, A, B, n⟩ = (h', e)) :
    h' = up h 32 (wrap32 (h 32 + 4)) ∧ e = ⟨7, 0, 0, 0, 0⟩ := by
  have e1 : stepV h id ⟨43, d, A, B, n⟩ = (Ht.go h 4, ⟨7, 0, 0, 0, 0⟩) := by
    unfold stepV
    rw [RT]
    rfl
  rw [e1] at he
  injection he with a1 a2
  subst a1 a2
  exact ⟨rfl, rfl⟩
theorem k_45 {h h' : H} (fine : Fine h) {id d n : Int} {A B : Nat} {e : Eff} (RT : Rv.right ⟨45, d, A, B, n⟩ = true) (lA : A < 32) (he : stepV h id ⟨45, d, A, B, n⟩ = (h', e)) :
    h' = up h 32 (wrap32 (h 32 + 4)) ∧ e = ⟨8, 0, 0, 0, 0⟩ := by
  have e1 : stepV h id ⟨45, d, A, B, n⟩ = (Ht.go h 4, ⟨8, 0, 0, 0, 0⟩) := by
    unfold stepV
    rw [RT]
    rfl
  rw [e1] at he
  injection he with a1 a2
  subst a1 a2
  exact ⟨rfl, rfl⟩
theorem k_11 {h h' : H} (fine : Fine h) {id d n : Int} {A B : Nat} {e : Eff} (RT : Rv.right ⟨11, d, A, B, n⟩ = true) (lA : A < 32) (he : stepV h id ⟨11, d, A, B, n⟩ = (h', e)) :
    ∃ ad, wrap32 (h A + n) = ad ∧ h' = up h 32 (wrap32 (h 32 + 4)) ∧ e = ⟨1, d, ad, 0, 0⟩ := by
  have e1 : stepV h id ⟨11, d, A, B, n⟩ = (Ht.go h 4, ⟨1, d, wrap32 (h A + n), 0, 0⟩) := by
    unfold stepV
    rw [RT]
    rfl
  rw [e1] at he
  injection he with a1 a2
  subst a1 a2
  exact ⟨_, rfl, rfl, rfl⟩
theorem k_12 {h h' : H} (fine : Fine h) {id d n : Int} {A B : Nat} {e : Eff} (RT : Rv.right ⟨12, d, A, B, n⟩ = true) (lA : A < 32) (he : stepV h id ⟨12, d, A, B, n⟩ = (h', e)) :
    ∃ ad, wrap32 (h A + n) = ad ∧ h' = up h 32 (wrap32 (h 32 + 4)) ∧ e = ⟨2, 0, ad, h B, 0⟩ := by
  have e1 : stepV h id ⟨12, d, A, B, n⟩ = (Ht.go h 4, ⟨2, 0, wrap32 (h A + n), h B, 0⟩) := by
    unfold stepV
    rw [RT]
    rfl
  rw [e1] at he
  injection he with a1 a2
  subst a1 a2
  exact ⟨_, rfl, rfl, rfl⟩
theorem k_44 {h h' : H} (fine : Fine h) {id d n : Int} {A B : Nat} {e : Eff} (RT : Rv.right ⟨44, d, A, B, n⟩ = true) (lA : A < 32) (he : stepV h id ⟨44, d, A, B, n⟩ = (h', e)) :
    (∀ W, Calls Tryd.prog 45 #[hv h] W (OneV (hv h') W)) ∧ e = e0 := by
  have e1 : stepV h id ⟨44, d, A, B, n⟩ = (up (up h 32 (h 36)) 33 (backS (h 33)), e0) := by
    unfold stepV
    rw [RT]
    rfl
  rw [e1] at he
  injection he with a1 a2
  subst a1 a2
  exact ⟨fun W => rback_lit rfl rfl rfl (back_st fine.st) rfl W, rfl⟩
theorem k_40 {h h' : H} (fine : Fine h) {id d n : Int} {A B : Nat} {e : Eff} (RT : Rv.right ⟨40, d, A, B, n⟩ = true) (lA : A < 32) (he : stepV h id ⟨40, d, A, B, n⟩ = (h', e)) :
    ∀ W, Calls Tryd.prog 44 #[hv h, .int .i64 id, iv 40 d (A : Int) (B : Int) n] W (OneV (.tuple #[hv h', .agg (eC e)]) W) := by
  have e1 : stepV h id ⟨40, d, A, B, n⟩ = csrV h id 40 d A n := by
    unfold stepV
    rw [RT]
    rfl
  rw [e1] at he
  unfold csrV at he
  by_cases cn : n = 3860
  · rw [if_pos cn] at he
    injection he with a1 a2
    subst a1 a2 cn
    rw [go_put]
    exact fun W => rcsr lA (Lib.hid fun W => rctl_3860 h rfl W) rfl (fun c => absurd c (by decide)) (fun c => absurd c (by decide)) (fun _ _ => rfl) (Lib.hid fun W => rset_3860 rfl W) rfl rfl
  rw [if_neg cn] at he
  cases hk : csrK n with
  | none =>
    rw [hk] at he
    injection he with a1 a2
    subst a1 a2
    exact fun W => rcsr_bad (fun W => rctl_none h (csrK_none hk cn) W)
  | some p =>
    obtain ⟨k, bt⟩ := p
    rw [hk] at he
    injection he with a1 a2
    subst a1 a2
    have hz := bits_b 0 (fine.in32 k) (fine.in32 A) 40 (by decide)
    obtain ⟨c1, c2⟩ := rctl_some (h := h) hk
    rw [go_put, up_ne _ _ (by have := csrK_bd hk; omega)]
    exact fun W => rcsr lA (Lib.hid fun W => c1 id W) rfl (fun c => absurd c (by decide)) (fun c => absurd c (by decide)) (fun _ _ => rfl) (Lib.hid fun W => c2 h _ hz W) rfl rfl
theorem k_41 {h h' : H} (fine : Fine h) {id d n : Int} {A B : Nat} {e : Eff} (RT : Rv.right ⟨41, d, A, B, n⟩ = true) (lA : A < 32) (he : stepV h id ⟨41, d, A, B, n⟩ = (h', e)) :
    ∀ W, Calls Tryd.prog 44 #[hv h, .int .i64 id, iv 41 d (A : Int) (B : Int) n] W (OneV (.tuple #[hv h', .agg (eC e)]) W) := by
  have e1 : stepV h id ⟨41, d, A, B, n⟩ = csrV h id 41 d A n := by
    unfold stepV
    rw [RT]
    rfl
  rw [e1] at he
  unfold csrV at he
  by_cases cn : n = 3860
  · rw [if_pos cn] at he
    injection he with a1 a2
    subst a1 a2 cn
    rw [go_put]
    exact fun W => rcsr lA (Lib.hid fun W => rctl_3860 h rfl W) rfl (fun _ => rfl) (fun c => absurd c (by decide)) (fun c => absurd rfl c) (Lib.hid fun W => rset_3860 rfl W) rfl rfl
  rw [if_neg cn] at he
  cases hk : csrK n with
  | none =>
    rw [hk] at he
    injection he with a1 a2
    subst a1 a2
    exact fun W => rcsr_bad (fun W => rctl_none h (csrK_none hk cn) W)
  | some p =>
    obtain ⟨k, bt⟩ := p
    rw [hk] at he
    injection he with a1 a2
    subst a1 a2
    have hz := bits_b 0 (fine.in32 k) (fine.in32 A) 41 (by decide)
    obtain ⟨c1, c2⟩ := rctl_some (h := h) hk
    rw [go_put, up_ne _ _ (by have := csrK_bd hk; omega)]
    exact fun W => rcsr lA (Lib.hid fun W => c1 id W) rfl (fun _ => two7_or (fine.in32 k) (fine.in32 A)) (fun c => absurd c (by decide)) (fun c => absurd rfl c) (Lib.hid fun W => c2 h _ hz W) rfl rfl
theorem k_42 {h h' : H} (fine : Fine h) {id d n : Int} {A B : Nat} {e : Eff} (RT : Rv.right ⟨42, d, A, B, n⟩ = true) (lA : A < 32) (he : stepV h id ⟨42, d, A, B, n⟩ = (h', e)) :
    ∀ W, Calls Tryd.prog 44 #[hv h, .int .i64 id, iv 42 d (A : Int) (B : Int) n] W (OneV (.tuple #[hv h', .agg (eC e)]) W) := by
  have e1 : stepV h id ⟨42, d, A, B, n⟩ = csrV h id 42 d A n := by
    unfold stepV
    rw [RT]
    rfl
  rw [e1] at he
  unfold csrV at he
  by_cases cn : n = 3860
  · rw [if_pos cn] at he
    injection he with a1 a2
    subst a1 a2 cn
    rw [go_put]
    exact fun W => rcsr lA (Lib.hid fun W => rctl_3860 h rfl W) rfl (fun c => absurd c (by decide)) (fun _ => rfl) (fun _ c => absurd rfl c) (Lib.hid fun W => rset_3860 rfl W) rfl rfl
  rw [if_neg cn] at he
  cases hk : csrK n with
  | none =>
    rw [hk] at he
    injection he with a1 a2
    subst a1 a2
    exact fun W => rcsr_bad (fun W => rctl_none h (csrK_none hk cn) W)
  | some p =>
    obtain ⟨k, bt⟩ := p
    rw [hk] at he
    injection he with a1 a2
    subst a1 a2
    have hz := bits_b 0 (fine.in32 k) (fine.in32 A) 42 (by decide)
    obtain ⟨c1, c2⟩ := rctl_some (h := h) hk
    rw [go_put, up_ne _ _ (by have := csrK_bd hk; omega)]
    exact fun W => rcsr lA (Lib.hid fun W => c1 id W) rfl (fun c => absurd c (by decide)) (fun _ => two6_not (fine.in32 k) (fine.in32 A)) (fun _ c => absurd rfl c) (Lib.hid fun W => c2 h _ hz W) rfl rfl
theorem k_13 {h h' : H} (fine : Fine h) {id d n : Int} {A B : Nat} {e : Eff} (RT : Rv.right ⟨13, d, A, B, n⟩ = true) (lA : A < 32) (he : stepV h id ⟨13, d, A, B, n⟩ = (h', e)) :
    ∃ v h1, (∀ W, Calls Tryd.prog 46 #[.int .i64 13, .int .i64 (h A), .int .i64 n] W (OneV (.tuple #[.int .i64 v, .bool true]) W)) ∧ put h d v = h1 ∧ h' = up h1 32 (wrap32 (h 32 + 4)) ∧ e = e0 := by
  rw [sv_num RT (by decide), numV_two (k := 1) (by decide) (by decide +kernel)] at he
  injection he with a1 a2
  subst a1 a2
  obtain ⟨-, -, -, -, r4, r5⟩ := Rv.right_parts RT
  simp only [show Rv.form 13 = 73 from by decide +kernel] at r4 r5
  have b0 : (B : Int) = 0 := Rv.reg_no (show Rv.reg (B : Int) false = true from r4)
  have hy : (if (B : Int) = 0 then n else h B) = n := if_pos b0
  rw [hy, go_put]
  exact ⟨_, _, fun W => rtwo_13 rfl W, rfl, rfl, rfl⟩
theorem k_14 {h h' : H} (fine : Fine h) {id d n : Int} {A B : Nat} {e : Eff} (RT : Rv.right ⟨14, d, A, B, n⟩ = true) (lA : A < 32) (he : stepV h id ⟨14, d, A, B, n⟩ = (h', e)) :
    ∃ v h1, (∀ W, Calls Tryd.prog 46 #[.int .i64 14, .int .i64 (h A), .int .i64 n] W (OneV (.tuple #[.int .i64 v, .bool true]) W)) ∧ put h d v = h1 ∧ h' = up h1 32 (wrap32 (h 32 + 4)) ∧ e = e0 := by
  rw [sv_num RT (by decide), numV_two (k := 11) (by decide) (by decide +kernel)] at he
  injection he with a1 a2
  subst a1 a2
  obtain ⟨-, -, -, -, r4, r5⟩ := Rv.right_parts RT
  simp only [show Rv.form 14 = 73 from by decide +kernel] at r4 r5
  have b0 : (B : Int) = 0 := Rv.reg_no (show Rv.reg (B : Int) false = true from r4)
  have hy : (if (B : Int) = 0 then n else h B) = n := if_pos b0
  rw [hy, go_put]
  exact ⟨_, _, fun W => rtwo_14 rfl W, rfl, rfl, rfl⟩
theorem k_15 {h h' : H} (fine : Fine h) {id d n : Int} {A B : Nat} {e : Eff} (RT : Rv.right ⟨15, d, A, B, n⟩ = true) (lA : A < 32) (he : stepV h id ⟨15, d, A, B, n⟩ = (h', e)) :
    ∃ v h1, (∀ W, Calls Tryd.prog 46 #[.int .i64 15, .int .i64 (h A), .int .i64 n] W (OneV (.tuple #[.int .i64 v, .bool true]) W)) ∧ put h d v = h1 ∧ h' = up h1 32 (wrap32 (h 32 + 4)) ∧ e = e0 := by
  rw [sv_num RT (by decide), numV_two (k := 12) (by decide) (by decide +kernel)] at he
  injection he with a1 a2
  subst a1 a2
  obtain ⟨-, -, -, -, r4, r5⟩ := Rv.right_parts RT
  simp only [show Rv.form 15 = 73 from by decide +kernel] at r4 r5
  have b0 : (B : Int) = 0 := Rv.reg_no (show Rv.reg (B : Int) false = true from r4)
  have hy : (if (B : Int) = 0 then n else h B) = n := if_pos b0
  rw [hy, go_put]
  exact ⟨_, _, fun W => rtwo_15 rfl W, rfl, rfl, rfl⟩
theorem k_16 {h h' : H} (fine : Fine h) {id d n : Int} {A B : Nat} {e : Eff} (RT : Rv.right ⟨16, d, A, B, n⟩ = true) (lA : A < 32) (he : stepV h id ⟨16, d, A, B, n⟩ = (h', e)) :
    ∃ v h1, (∀ W, Calls Tryd.prog 46 #[.int .i64 16, .int .i64 (h A), .int .i64 n] W (OneV (.tuple #[.int .i64 v, .bool true]) W)) ∧ put h d v = h1 ∧ h' = up h1 32 (wrap32 (h 32 + 4)) ∧ e = e0 := by
  rw [sv_num RT (by decide), numV_two (k := 8) (by decide) (by decide +kernel)] at he
  injection he with a1 a2
  subst a1 a2
  obtain ⟨-, -, -, -, r4, r5⟩ := Rv.right_parts RT
  simp only [show Rv.form 16 = 73 from by decide +kernel] at r4 r5
  have b0 : (B : Int) = 0 := Rv.reg_no (show Rv.reg (B : Int) false = true from r4)
  have hy : (if (B : Int) = 0 then n else h B) = n := if_pos b0
  rw [hy, go_put]
  exact ⟨_, _, fun W => rtwo_16 rfl W, rfl, rfl, rfl⟩
theorem k_17 {h h' : H} (fine : Fine h) {id d n : Int} {A B : Nat} {e : Eff} (RT : Rv.right ⟨17, d, A, B, n⟩ = true) (lA : A < 32) (he : stepV h id ⟨17, d, A, B, n⟩ = (h', e)) :
    ∃ v h1, (∀ W, Calls Tryd.prog 46 #[.int .i64 17, .int .i64 (h A), .int .i64 n] W (OneV (.tuple #[.int .i64 v, .bool true]) W)) ∧ put h d v = h1 ∧ h' = up h1 32 (wrap32 (h 32 + 4)) ∧ e = e0 := by
  rw [sv_num RT (by decide), numV_two (k := 7) (by decide) (by decide +kernel)] at he
  injection he with a1 a2
  subst a1 a2
  obtain ⟨-, -, -, -, r4, r5⟩ := Rv.right_parts RT
  simp only [show Rv.form 17 = 73 from by decide +kernel] at r4 r5
  have b0 : (B : Int) = 0 := Rv.reg_no (show Rv.reg (B : Int) false = true from r4)
  have hy : (if (B : Int) = 0 then n else h B) = n := if_pos b0
  rw [hy, go_put]
  exact ⟨_, _, fun W => rtwo_17 rfl W, rfl, rfl, rfl⟩
theorem k_18 {h h' : H} (fine : Fine h) {id d n : Int} {A B : Nat} {e : Eff} (RT : Rv.right ⟨18, d, A, B, n⟩ = true) (lA : A < 32) (he : stepV h id ⟨18, d, A, B, n⟩ = (h', e)) :
    ∃ v h1, (∀ W, Calls Tryd.prog 46 #[.int .i64 18, .int .i64 (h A), .int .i64 n] W (OneV (.tuple #[.int .i64 v, .bool true]) W)) ∧ put h d v = h1 ∧ h' = up h1 32 (wrap32 (h 32 + 4)) ∧ e = e0 := by
  rw [sv_num RT (by decide), numV_two (k := 6) (by decide) (by decide +kernel)] at he
  injection he with a1 a2
  subst a1 a2
  obtain ⟨-, -, -, -, r4, r5⟩ := Rv.right_parts RT
  simp only [show Rv.form 18 = 73 from by decide +kernel] at r4 r5
  have b0 : (B : Int) = 0 := Rv.reg_no (show Rv.reg (B : Int) false = true from r4)
  have hy : (if (B : Int) = 0 then n else h B) = n := if_pos b0
  rw [hy, go_put]
  exact ⟨_, _, fun W => rtwo_18 rfl W, rfl, rfl, rfl⟩
theorem k_19 {h h' : H} (fine : Fine h) {id d n : Int} {A B : Nat} {e : Eff} (RT : Rv.right ⟨19, d, A, B, n⟩ = true) (lA : A < 32) (he : stepV h id ⟨19, d, A, B, n⟩ = (h', e)) :
    ∃ v h1, (∀ W, Calls Tryd.prog 46 #[.int .i64 19, .int .i64 (h A), .int .i64 n] W (OneV (.tuple #[.int .i64 v, .bool true]) W)) ∧ put h d v = h1 ∧ h' = up h1 32 (wrap32 (h 32 + 4)) ∧ e = e0 := by
  rw [sv_num RT (by decide), numV_two (k := 9) (by decide) (by decide +kernel)] at he
  injection he with a1 a2
  subst a1 a2
  obtain ⟨-, -, -, -, r4, r5⟩ := Rv.right_parts RT
  simp only [show Rv.form 19 = 72 from by decide +kernel] at r4 r5
  have b0 : (B : Int) = 0 := Rv.reg_no (show Rv.reg (B : Int) false = true from r4)
  have hy : (if (B : Int) = 0 then n else h B) = n := if_pos b0
  rw [hy, go_put]
  exact ⟨_, _, fun W => rtwo_19 rfl W, rfl, rfl, rfl⟩
theorem k_20 {h h' : H} (fine : Fine h) {id d n : Int} {A B : Nat} {e : Eff} (RT : Rv.right ⟨20, d, A, B, n⟩ = true) (lA : A < 32) (he : stepV h id ⟨20, d, A, B, n⟩ = (h', e)) :
    ∃ v h1, (∀ W, Calls Tryd.prog 46 #[.int .i64 20, .int .i64 (h A), .int .i64 n] W (OneV (.tuple #[.int .i64 v, .bool true]) W)) ∧ put h d v = h1 ∧ h' = up h1 32 (wrap32 (h 32 + 4)) ∧ e = e0 := by
  rw [sv_num RT (by decide), numV_shr (by decide)] at he
  injection he with a1 a2
  subst a1 a2
  obtain ⟨-, -, -, -, r4, r5⟩ := Rv.right_parts RT
  simp only [show Rv.form 20 = 72 from by decide +kernel] at r4 r5
  have b0 : (B : Int) = 0 := Rv.reg_no (show Rv.reg (B : Int) false = true from r4)
  have hy : (if (B : Int) = 0 then n else h B) = n := if_pos b0
  rw [hy, go_put]
  exact ⟨_, _, fun W => rtwo_20 rfl W, rfl, rfl, rfl⟩
theorem k_21 {h h' : H} (fine : Fine h) {id d n : Int} {A B : Nat} {e : Eff} (RT : Rv.right ⟨21, d, A, B, n⟩ = true) (lA : A < 32) (he : stepV h id ⟨21, d, A, B, n⟩ = (h', e)) :
    ∃ v h1, (∀ W, Calls Tryd.prog 46 #[.int .i64 21, .int .i64 (h A), .int .i64 n] W (OneV (.tuple #[.int .i64 v, .bool true]) W)) ∧ put h d v = h1 ∧ h' = up h1 32 (wrap32 (h 32 + 4)) ∧ e = e0 := by
  rw [sv_num RT (by decide), numV_two (k := 10) (by decide) (by decide +kernel)] at he
  injection he with a1 a2
  subst a1 a2
  obtain ⟨-, -, -, -, r4, r5⟩ := Rv.right_parts RT
  simp only [show Rv.form 21 = 72 from by decide +kernel] at r4 r5
  have b0 : (B : Int) = 0 := Rv.reg_no (show Rv.reg (B : Int) false = true from r4)
  have hy : (if (B : Int) = 0 then n else h B) = n := if_pos b0
  rw [hy, go_put]
  exact ⟨_, _, fun W => rtwo_21 rfl W, rfl, rfl, rfl⟩
theorem k_22 {h h' : H} (fine : Fine h) {id d n : Int} {A B : Nat} {e : Eff} (RT : Rv.right ⟨22, d, A, B, n⟩ = true) (lA : A < 32) (he : stepV h id ⟨22, d, A, B, n⟩ = (h', e)) :
    ∃ v h1, (∀ W, Calls Tryd.prog 46 #[.int .i64 22, .int .i64 (h A), .int .i64 (h B)] W (OneV (.tuple #[.int .i64 v, .bool true]) W)) ∧ put h d v = h1 ∧ h' = up h1 32 (wrap32 (h 32 + 4)) ∧ e = e0 := by
  rw [sv_num RT (by decide), numV_two (k := 1) (by decide) (by decide +kernel)] at he
  injection he with a1 a2
  subst a1 a2
  obtain ⟨-, -, -, -, r4, r5⟩ := Rv.right_parts RT
  simp only [show Rv.form 22 = 82 from by decide +kernel] at r4 r5
  have n0 : n = 0 := by simpa [Rv.num] using r5
  have hy : (if (B : Int) = 0 then n else h B) = h B := by
    by_cases c : (B : Int) = 0
    · rw [if_pos c, n0, show B = 0 by omega, fine.x0]
    · rw [if_neg c]
  rw [hy, go_put]
  exact ⟨_, _, fun W => rtwo_22 rfl W, rfl, rfl, rfl⟩
theorem k_23 {h h' : H} (fine : Fine h) {id d n : Int} {A B : Nat} {e : Eff} (RT : Rv.right ⟨23, d, A, B, n⟩ = true) (lA : A < 32) (he : stepV h id ⟨23, d, A, B, n⟩ = (h', e)) :
    ∃ v h1, (∀ W, Calls Tryd.prog 46 #[.int .i64 23, .int .i64 (h A), .int .i64 (h B)] W (OneV (.tuple #[.int .i64 v, .bool true]) W)) ∧ put h d v = h1 ∧ h' = up h1 32 (wrap32 (h 32 + 4)) ∧ e = e0 := by
  rw [sv_num RT (by decide), numV_two (k := 2) (by decide) (by decide +kernel)] at he
  injection he with a1 a2
  subst a1 a2
  obtain ⟨-, -, -, -, r4, r5⟩ := Rv.right_parts RT
  simp only [show Rv.form 23 = 82 from by decide +kernel] at r4 r5
  have n0 : n = 0 := by simpa [Rv.num] using r5
  have hy : (if (B : Int) = 0 then n else h B) = h B := by
    by_cases c : (B : Int) = 0
    · rw [if_pos c, n0, show B = 0 by omega, fine.x0]
    · rw [if_neg c]
  rw [hy, go_put]
  exact ⟨_, _, fun W => rtwo_23 rfl W, rfl, rfl, rfl⟩
theorem k_24 {h h' : H} (fine : Fine h) {id d n : Int} {A B : Nat} {e : Eff} (RT : Rv.right ⟨24, d, A, B, n⟩ = true) (lA : A < 32) (he : stepV h id ⟨24, d, A, B, n⟩ = (h', e)) :
    ∃ v h1, (∀ W, Calls Tryd.prog 46 #[.int .i64 24, .int .i64 (h A), .int .i64 (h B)] W (OneV (.tuple #[.int .i64 v, .bool true]) W)) ∧ put h d v = h1 ∧ h' = up h1 32 (wrap32 (h 32 + 4)) ∧ e = e0 := by
  rw [sv_num RT (by decide), numV_two (k := 9) (by decide) (by decide +kernel)] at he
  injection he with a1 a2
  subst a1 a2
  obtain ⟨-, -, -, -, r4, r5⟩ := Rv.right_parts RT
  simp only [show Rv.form 24 = 82 from by decide +kernel] at r4 r5
  have n0 : n = 0 := by simpa [Rv.num] using r5
  have hy : (if (B : Int) = 0 then n else h B) = h B := by
    by_cases c : (B : Int) = 0
    · rw [if_pos c, n0, show B = 0 by omega, fine.x0]
    · rw [if_neg c]
  rw [hy, go_put]
  exact ⟨_, _, fun W => rtwo_24 rfl W, rfl, rfl, rfl⟩
theorem k_25 {h h' : H} (fine : Fine h) {id d n : Int} {A B : Nat} {e : Eff} (RT : Rv.right ⟨25, d, A, B, n⟩ = true) (lA : A < 32) (he : stepV h id ⟨25, d, A, B, n⟩ = (h', e)) :
    ∃ v h1, (∀ W, Calls Tryd.prog 46 #[.int .i64 25, .int .i64 (h A), .int .i64 (h B)] W (OneV (.tuple #[.int .i64 v, .bool true]) W)) ∧ put h d v = h1 ∧ h' = up h1 32 (wrap32 (h 32 + 4)) ∧ e = e0 := by
  rw [sv_num RT (by decide), numV_two (k := 11) (by decide) (by decide +kernel)] at he
  injection he with a1 a2
  subst a1 a2
  obtain ⟨-, -, -, -, r4, r5⟩ := Rv.right_parts RT
  simp only [show Rv.form 25 = 82 from by decide +kernel] at r4 r5
  have n0 : n = 0 := by simpa [Rv.num] using r5
  have hy : (if (B : Int) = 0 then n else h B) = h B := by
    by_cases c : (B : Int) = 0
    · rw [if_pos c, n0, show B = 0 by omega, fine.x0]
    · rw [if_neg c]
  rw [hy, go_put]
  exact ⟨_, _, fun W => rtwo_25 rfl W, rfl, rfl, rfl⟩
theorem k_26 {h h' : H} (fine : Fine h) {id d n : Int} {A B : Nat} {e : Eff} (RT : Rv.right ⟨26, d, A, B, n⟩ = true) (lA : A < 32) (he : stepV h id ⟨26, d, A, B, n⟩ = (h', e)) :
    ∃ v h1, (∀ W, Calls Tryd.prog 46 #[.int .i64 26, .int .i64 (h A), .int .i64 (h B)] W (OneV (.tuple #[.int .i64 v, .bool true]) W)) ∧ put h d v = h1 ∧ h' = up h1 32 (wrap32 (h 32 + 4)) ∧ e = e0 := by
  rw [sv_num RT (by decide), numV_two (k := 12) (by decide) (by decide +kernel)] at he
  injection he with a1 a2
  subst a1 a2
  obtain ⟨-, -, -, -, r4, r5⟩ := Rv.right_parts RT
  simp only [show Rv.form 26 = 82 from by decide +kernel] at r4 r5
  have n0 : n = 0 := by simpa [Rv.num] using r5
  have hy : (if (B : Int) = 0 then n else h B) = h B := by
    by_cases c : (B : Int) = 0
    · rw [if_pos c, n0, show B = 0 by omega, fine.x0]
    · rw [if_neg c]
  rw [hy, go_put]
  exact ⟨_, _, fun W => rtwo_26 rfl W, rfl, rfl, rfl⟩
theorem k_27 {h h' : H} (fine : Fine h) {id d n : Int} {A B : Nat} {e : Eff} (RT : Rv.right ⟨27, d, A, B, n⟩ = true) (lA : A < 32) (he : stepV h id ⟨27, d, A, B, n⟩ = (h', e)) :
    ∃ v h1, (∀ W, Calls Tryd.prog 46 #[.int .i64 27, .int .i64 (h A), .int .i64 (h B)] W (OneV (.tuple #[.int .i64 v, .bool true]) W)) ∧ put h d v = h1 ∧ h' = up h1 32 (wrap32 (h 32 + 4)) ∧ e = e0 := by
  rw [sv_num RT (by decide), numV_two (k := 8) (by decide) (by decide +kernel)] at he
  injection he with a1 a2
  subst a1 a2
  obtain ⟨-, -, -, -, r4, r5⟩ := Rv.right_parts RT
  simp only [show Rv.form 27 = 82 from by decide +kernel] at r4 r5
  have n0 : n = 0 := by simpa [Rv.num] using r5
  have hy : (if (B : Int) = 0 then n else h B) = h B := by
    by_cases c : (B : Int) = 0
    · rw [if_pos c, n0, show B = 0 by omega, fine.x0]
    · rw [if_neg c]
  rw [hy, go_put]
  exact ⟨_, _, fun W => rtwo_27 rfl W, rfl, rfl, rfl⟩
theorem k_28 {h h' : H} (fine : Fine h) {id d n : Int} {A B : Nat} {e : Eff} (RT : Rv.right ⟨28, d, A, B, n⟩ = true) (lA : A < 32) (he : stepV h id ⟨28, d, A, B, n⟩ = (h', e)) :
    ∃ v h1, (∀ W, Calls Tryd.prog 46 #[.int .i64 28, .int .i64 (h A), .int .i64 (h B)] W (OneV (.tuple #[.int .i64 v, .bool true]) W)) ∧ put h d v = h1 ∧ h' = up h1 32 (wrap32 (h 32 + 4)) ∧ e = e0 := by
  rw [sv_num RT (by decide), numV_shr (by decide)] at he
  injection he with a1 a2
  subst a1 a2
  obtain ⟨-, -, -, -, r4, r5⟩ := Rv.right_parts RT
  simp only [show Rv.form 28 = 82 from by decide +kernel] at r4 r5
  have n0 : n = 0 := by simpa [Rv.num] using r5
  have hy : (if (B : Int) = 0 then n else h B) = h B := by
    by_cases c : (B : Int) = 0
    · rw [if_pos c, n0, show B = 0 by omega, fine.x0]
    · rw [if_neg c]
  rw [hy, go_put]
  exact ⟨_, _, fun W => rtwo_28 rfl W, rfl, rfl, rfl⟩
theorem k_29 {h h' : H} (fine : Fine h) {id d n : Int} {A B : Nat} {e : Eff} (RT : Rv.right ⟨29, d, A, B, n⟩ = true) (lA : A < 32) (he : stepV h id ⟨29, d, A, B, n⟩ = (h', e)) :
    ∃ v h1, (∀ W, Calls Tryd.prog 46 #[.int .i64 29, .int .i64 (h A), .int .i64 (h B)] W (OneV (.tuple #[.int .i64 v, .bool true]) W)) ∧ put h d v = h1 ∧ h' = up h1 32 (wrap32 (h 32 + 4)) ∧ e = e0 := by
  rw [sv_num RT (by decide), numV_two (k := 10) (by decide) (by decide +kernel)] at he
  injection he with a1 a2
  subst a1 a2
  obtain ⟨-, -, -, -, r4, r5⟩ := Rv.right_parts RT
  simp only [show Rv.form 29 = 82 from by decide +kernel] at r4 r5
  have n0 : n = 0 := by simpa [Rv.num] using r5
  have hy : (if (B : Int) = 0 then n else h B) = h B := by
    by_cases c : (B : Int) = 0
    · rw [if_pos c, n0, show B = 0 by omega, fine.x0]
    · rw [if_neg c]
  rw [hy, go_put]
  exact ⟨_, _, fun W => rtwo_29 rfl W, rfl, rfl, rfl⟩
theorem k_30 {h h' : H} (fine : Fine h) {id d n : Int} {A B : Nat} {e : Eff} (RT : Rv.right ⟨30, d, A, B, n⟩ = true) (lA : A < 32) (he : stepV h id ⟨30, d, A, B, n⟩ = (h', e)) :
    ∃ v h1, (∀ W, Calls Tryd.prog 46 #[.int .i64 30, .int .i64 (h A), .int .i64 (h B)] W (OneV (.tuple #[.int .i64 v, .bool true]) W)) ∧ put h d v = h1 ∧ h' = up h1 32 (wrap32 (h 32 + 4)) ∧ e = e0 := by
  rw [sv_num RT (by decide), numV_two (k := 7) (by decide) (by decide +kernel)] at he
  injection he with a1 a2
  subst a1 a2
  obtain ⟨-, -, -, -, r4, r5⟩ := Rv.right_parts RT
  simp only [show Rv.form 30 = 82 from by decide +kernel] at r4 r5
  have n0 : n = 0 := by simpa [Rv.num] using r5
  have hy : (if (B : Int) = 0 then n else h B) = h B := by
    by_cases c : (B : Int) = 0
    · rw [if_pos c, n0, show B = 0 by omega, fine.x0]
    · rw [if_neg c]
  rw [hy, go_put]
  exact ⟨_, _, fun W => rtwo_30 rfl W, rfl, rfl, rfl⟩
theorem k_31 {h h' : H} (fine : Fine h) {id d n : Int} {A B : Nat} {e : Eff} (RT : Rv.right ⟨31, d, A, B, n⟩ = true) (lA : A < 32) (he : stepV h id ⟨31, d, A, B, n⟩ = (h', e)) :
    ∃ v h1, (∀ W, Calls Tryd.prog 46 #[.int .i64 31, .int .i64 (h A), .int .i64 (h B)] W (OneV (.tuple #[.int .i64 v, .bool true]) W)) ∧ put h d v = h1 ∧ h' = up h1 32 (wrap32 (h 32 + 4)) ∧ e = e0 := by
  rw [sv_num RT (by decide), numV_two (k := 6) (by decide) (by decide +kernel)] at he
  injection he with a1 a2
  subst a1 a2
  obtain ⟨-, -, -, -, r4, r5⟩ := Rv.right_parts RT
  simp only [show Rv.form 31 = 82 from by decide +kernel] at r4 r5
  have n0 : n = 0 := by simpa [Rv.num] using r5
  have hy : (if (B : Int) = 0 then n else h B) = h B := by
    by_cases c : (B : Int) = 0
    · rw [if_pos c, n0, show B = 0 by omega, fine.x0]
    · rw [if_neg c]
  rw [hy, go_put]
  exact ⟨_, _, fun W => rtwo_31 rfl W, rfl, rfl, rfl⟩
theorem k_32 {h h' : H} (fine : Fine h) {id d n : Int} {A B : Nat} {e : Eff} (RT : Rv.right ⟨32, d, A, B, n⟩ = true) (lA : A < 32) (he : stepV h id ⟨32, d, A, B, n⟩ = (h', e)) :
    ∃ v h1, (∀ W, Calls Tryd.prog 46 #[.int .i64 32, .int .i64 (h A), .int .i64 (h B)] W (OneV (.tuple #[.int .i64 v, .bool true]) W)) ∧ put h d v = h1 ∧ h' = up h1 32 (wrap32 (h 32 + 4)) ∧ e = e0 := by
  rw [sv_num RT (by decide), numV_two (k := 3) (by decide) (by decide +kernel)] at he
  injection he with a1 a2
  subst a1 a2
  obtain ⟨-, -, -, -, r4, r5⟩ := Rv.right_parts RT
  simp only [show Rv.form 32 = 82 from by decide +kernel] at r4 r5
  have n0 : n = 0 := by simpa [Rv.num] using r5
  have hy : (if (B : Int) = 0 then n else h B) = h B := by
    by_cases c : (B : Int) = 0
    · rw [if_pos c, n0, show B = 0 by omega, fine.x0]
    · rw [if_neg c]
  rw [hy, go_put]
  exact ⟨_, _, fun W => rtwo_32 rfl W, rfl, rfl, rfl⟩
theorem k_33 {h h' : H} (fine : Fine h) {id d n : Int} {A B : Nat} {e : Eff} (RT : Rv.right ⟨33, d, A, B, n⟩ = true) (lA : A < 32) (he : stepV h id ⟨33, d, A, B, n⟩ = (h', e)) :
    ∃ v h1, (∀ W, Calls Tryd.prog 46 #[.int .i64 33, .int .i64 (h A), .int .i64 (h B)] W (OneV (.tuple #[.int .i64 v, .bool true]) W)) ∧ put h d v = h1 ∧ h' = up h1 32 (wrap32 (h 32 + 4)) ∧ e = e0 := by
  rw [sv_num RT (by decide), numV_33] at he
  injection he with a1 a2
  subst a1 a2
  obtain ⟨-, -, -, -, r4, r5⟩ := Rv.right_parts RT
  simp only [show Rv.form 33 = 82 from by decide +kernel] at r4 r5
  have n0 : n = 0 := by simpa [Rv.num] using r5
  have hy : (if (B : Int) = 0 then n else h B) = h B := by
    by_cases c : (B : Int) = 0
    · rw [if_pos c, n0, show B = 0 by omega, fine.x0]
    · rw [if_neg c]
  rw [hy, go_put]
  exact ⟨_, _, fun W => rtwo_33 rfl W, rfl, rfl, rfl⟩
theorem k_34 {h h' : H} (fine : Fine h) {id d n : Int} {A B : Nat} {e : Eff} (RT : Rv.right ⟨34, d, A, B, n⟩ = true) (lA : A < 32) (he : stepV h id ⟨34, d, A, B, n⟩ = (h', e)) :
    ∃ v h1, (∀ W, Calls Tryd.prog 46 #[.int .i64 34, .int .i64 (h A), .int .i64 (h B)] W (OneV (.tuple #[.int .i64 v, .bool true]) W)) ∧ put h d v = h1 ∧ h' = up h1 32 (wrap32 (h 32 + 4)) ∧ e = e0 := by
  rw [sv_num RT (by decide), numV_34] at he
  injection he with a1 a2
  subst a1 a2
  obtain ⟨-, -, -, -, r4, r5⟩ := Rv.right_parts RT
  simp only [show Rv.form 34 = 82 from by decide +kernel] at r4 r5
  have n0 : n = 0 := by simpa [Rv.num] using r5
  have hy : (if (B : Int) = 0 then n else h B) = h B := by
    by_cases c : (B : Int) = 0
    · rw [if_pos c, n0, show B = 0 by omega, fine.x0]
    · rw [if_neg c]
  rw [hy, go_put]
  exact ⟨_, _, fun W => rtwo_34 rfl W, rfl, rfl, rfl⟩
theorem k_35 {h h' : H} (fine : Fine h) {id d n : Int} {A B : Nat} {e : Eff} (RT : Rv.right ⟨35, d, A, B, n⟩ = true) (lA : A < 32) (he : stepV h id ⟨35, d, A, B, n⟩ = (h', e)) :
    ∃ v h1, (∀ W, Calls Tryd.prog 46 #[.int .i64 35, .int .i64 (h A), .int .i64 (h B)] W (OneV (.tuple #[.int .i64 v, .bool true]) W)) ∧ put h d v = h1 ∧ h' = up h1 32 (wrap32 (h 32 + 4)) ∧ e = e0 := by
  rw [sv_num RT (by decide), numV_two (k := 4) (by decide) (by decide +kernel)] at he
  injection he with a1 a2
  subst a1 a2
  obtain ⟨-, -, -, -, r4, r5⟩ := Rv.right_parts RT
  simp only [show Rv.form 35 = 82 from by decide +kernel] at r4 r5
  have n0 : n = 0 := by simpa [Rv.num] using r5
  have hy : (if (B : Int) = 0 then n else h B) = h B := by
    by_cases c : (B : Int) = 0
    · rw [if_pos c, n0, show B = 0 by omega, fine.x0]
    · rw [if_neg c]
  rw [hy, go_put]
  exact ⟨_, _, fun W => rtwo_35 rfl W, rfl, rfl, rfl⟩
theorem k_36 {h h' : H} (fine : Fine h) {id d n : Int} {A B : Nat} {e : Eff} (RT : Rv.right ⟨36, d, A, B, n⟩ = true) (lA : A < 32) (he : stepV h id ⟨36, d, A, B, n⟩ = (h', e)) :
    ∃ v h1, (∀ W, Calls Tryd.prog 46 #[.int .i64 36, .int .i64 (h A), .int .i64 (h B)] W (OneV (.tuple #[.int .i64 v, .bool true]) W)) ∧ put h d v = h1 ∧ h' = up h1 32 (wrap32 (h 32 + 4)) ∧ e = e0 := by
  rw [sv_num RT (by decide), numV_36] at he
  injection he with a1 a2
  subst a1 a2
  obtain ⟨-, -, -, -, r4, r5⟩ := Rv.right_parts RT
  simp only [show Rv.form 36 = 82 from by decide +kernel] at r4 r5
  have n0 : n = 0 := by simpa [Rv.num] using r5
  have hy : (if (B : Int) = 0 then n else h B) = h B := by
    by_cases c : (B : Int) = 0
    · rw [if_pos c, n0, show B = 0 by omega, fine.x0]
    · rw [if_neg c]
  rw [hy, go_put]
  exact ⟨_, _, fun W => rtwo_36 rfl W, rfl, rfl, rfl⟩
theorem k_37 {h h' : H} (fine : Fine h) {id d n : Int} {A B : Nat} {e : Eff} (RT : Rv.right ⟨37, d, A, B, n⟩ = true) (lA : A < 32) (he : stepV h id ⟨37, d, A, B, n⟩ = (h', e)) :
    ∃ v h1, (∀ W, Calls Tryd.prog 46 #[.int .i64 37, .int .i64 (h A), .int .i64 (h B)] W (OneV (.tuple #[.int .i64 v, .bool true]) W)) ∧ put h d v = h1 ∧ h' = up h1 32 (wrap32 (h 32 + 4)) ∧ e = e0 := by
  rw [sv_num RT (by decide), numV_two (k := 5) (by decide) (by decide +kernel)] at he
  injection he with a1 a2
  subst a1 a2
  obtain ⟨-, -, -, -, r4, r5⟩ := Rv.right_parts RT
  simp only [show Rv.form 37 = 82 from by decide +kernel] at r4 r5
  have n0 : n = 0 := by simpa [Rv.num] using r5
  have hy : (if (B : Int) = 0 then n else h B) = h B := by
    by_cases c : (B : Int) = 0
    · rw [if_pos c, n0, show B = 0 by omega, fine.x0]
    · rw [if_neg c]
  rw [hy, go_put]
  exact ⟨_, _, fun W => rtwo_37 rfl W, rfl, rfl, rfl⟩
theorem k_38 {h h' : H} (fine : Fine h) {id d n : Int} {A B : Nat} {e : Eff} (RT : Rv.right ⟨38, d, A, B, n⟩ = true) (lA : A < 32) (he : stepV h id ⟨38, d, A, B, n⟩ = (h', e)) :
    ∃ v h1, (∀ W, Calls Tryd.prog 46 #[.int .i64 38, .int .i64 (h A), .int .i64 (h B)] W (OneV (.tuple #[.int .i64 v, .bool true]) W)) ∧ put h d v = h1 ∧ h' = up h1 32 (wrap32 (h 32 + 4)) ∧ e = e0 := by
  rw [sv_num RT (by decide), numV_38] at he
  injection he with a1 a2
  subst a1 a2
  obtain ⟨-, -, -, -, r4, r5⟩ := Rv.right_parts RT
  simp only [show Rv.form 38 = 82 from by decide +kernel] at r4 r5
  have n0 : n = 0 := by simpa [Rv.num] using r5
  have hy : (if (B : Int) = 0 then n else h B) = h B := by
    by_cases c : (B : Int) = 0
    · rw [if_pos c, n0, show B = 0 by omega, fine.x0]
    · rw [if_neg c]
  rw [hy, go_put]
  exact ⟨_, _, fun W => rtwo_38 rfl W, put_cong h d (show wrap32 (if (h B) % 4294967296 = 0 then h A else h A % 4294967296 % ((h B) % 4294967296)) = _ from by split <;> first | rfl | exact (md_in (h A)).symm), rfl, rfl⟩
theorem form_66 {o : Int} (h1 : 1 ≤ o) (h2 : o ≤ 49) (h : Rv.form o = 66) : o = 5 ∨ o = 6 ∨ o = 7 ∨ o = 8 ∨ o = 9 ∨ o = 10 := by
  have : o = 1 ∨ o = 2 ∨ o = 3 ∨ o = 4 ∨ o = 5 ∨ o = 6 ∨ o = 7 ∨ o = 8 ∨ o = 9 ∨ o = 10 ∨ o = 11 ∨ o = 12 ∨ o = 13 ∨ o = 14 ∨ o = 15 ∨ o = 16 ∨ o = 17 ∨ o = 18 ∨ o = 19 ∨ o = 20 ∨ o = 21 ∨ o = 22 ∨ o = 23 ∨ o = 24 ∨ o = 25 ∨ o = 26 ∨ o = 27 ∨ o = 28 ∨ o = 29 ∨ o = 30 ∨ o = 31 ∨ o = 32 ∨ o = 33 ∨ o = 34 ∨ o = 35 ∨ o = 36 ∨ o = 37 ∨ o = 38 ∨ o = 39 ∨ o = 40 ∨ o = 41 ∨ o = 42 ∨ o = 43 ∨ o = 44 ∨ o = 45 ∨ o = 46 ∨ o = 47 ∨ o = 48 ∨ o = 49 := by omega
  rcases this with rfl | rfl | rfl | rfl | rfl | rfl | rfl | rfl | rfl | rfl | rfl | rfl | rfl | rfl | rfl | rfl | rfl | rfl | rfl | rfl | rfl | rfl | rfl | rfl | rfl | rfl | rfl | rfl | rfl | rfl | rfl | rfl | rfl | rfl | rfl | rfl | rfl | rfl | rfl | rfl | rfl | rfl | rfl | rfl | rfl | rfl | rfl | rfl | rfl <;> first | omega | exact absurd h (by decide +kernel)
theorem form_67 {o : Int} (h1 : 1 ≤ o) (h2 : o ≤ 49) (h : Rv.form o = 67) : o = 40 ∨ o = 41 ∨ o = 42 := by
  have : o = 1 ∨ o = 2 ∨ o = 3 ∨ o = 4 ∨ o = 5 ∨ o = 6 ∨ o = 7 ∨ o = 8 ∨ o = 9 ∨ o = 10 ∨ o = 11 ∨ o = 12 ∨ o = 13 ∨ o = 14 ∨ o = 15 ∨ o = 16 ∨ o = 17 ∨ o = 18 ∨ o = 19 ∨ o = 20 ∨ o = 21 ∨ o = 22 ∨ o = 23 ∨ o = 24 ∨ o = 25 ∨ o = 26 ∨ o = 27 ∨ o = 28 ∨ o = 29 ∨ o = 30 ∨ o = 31 ∨ o = 32 ∨ o = 33 ∨ o = 34 ∨ o = 35 ∨ o = 36 ∨ o = 37 ∨ o = 38 ∨ o = 39 ∨ o = 40 ∨ o = 41 ∨ o = 42 ∨ o = 43 ∨ o = 44 ∨ o = 45 ∨ o = 46 ∨ o = 47 ∨ o = 48 ∨ o = 49 := by omega
  rcases this with rfl | rfl | rfl | rfl | rfl | rfl | rfl | rfl | rfl | rfl | rfl | rfl | rfl | rfl | rfl | rfl | rfl | rfl | rfl | rfl | rfl | rfl | rfl | rfl | rfl | rfl | rfl | rfl | rfl | rfl | rfl | rfl | rfl | rfl | rfl | rfl | rfl | rfl | rfl | rfl | rfl | rfl | rfl | rfl | rfl | rfl | rfl | rfl | rfl <;> first | omega | exact absurd h (by decide +kernel)
theorem form_82 {o : Int} (h1 : 1 ≤ o) (h2 : o ≤ 49) (h : Rv.form o = 82) : o = 22 ∨ o = 23 ∨ o = 24 ∨ o = 25 ∨ o = 26 ∨ o = 27 ∨ o = 28 ∨ o = 29 ∨ o = 30 ∨ o = 31 ∨ o = 32 ∨ o = 33 ∨ o = 34 ∨ o = 35 ∨ o = 36 ∨ o = 37 ∨ o = 38 := by
  have : o = 1 ∨ o = 2 ∨ o = 3 ∨ o = 4 ∨ o = 5 ∨ o = 6 ∨ o = 7 ∨ o = 8 ∨ o = 9 ∨ o = 10 ∨ o = 11 ∨ o = 12 ∨ o = 13 ∨ o = 14 ∨ o = 15 ∨ o = 16 ∨ o = 17 ∨ o = 18 ∨ o = 19 ∨ o = 20 ∨ o = 21 ∨ o = 22 ∨ o = 23 ∨ o = 24 ∨ o = 25 ∨ o = 26 ∨ o = 27 ∨ o = 28 ∨ o = 29 ∨ o = 30 ∨ o = 31 ∨ o = 32 ∨ o = 33 ∨ o = 34 ∨ o = 35 ∨ o = 36 ∨ o = 37 ∨ o = 38 ∨ o = 39 ∨ o = 40 ∨ o = 41 ∨ o = 42 ∨ o = 43 ∨ o = 44 ∨ o = 45 ∨ o = 46 ∨ o = 47 ∨ o = 48 ∨ o = 49 := by omega
  rcases this with rfl | rfl | rfl | rfl | rfl | rfl | rfl | rfl | rfl | rfl | rfl | rfl | rfl | rfl | rfl | rfl | rfl | rfl | rfl | rfl | rfl | rfl | rfl | rfl | rfl | rfl | rfl | rfl | rfl | rfl | rfl | rfl | rfl | rfl | rfl | rfl | rfl | rfl | rfl | rfl | rfl | rfl | rfl | rfl | rfl | rfl | rfl | rfl | rfl <;> first | omega | exact absurd h (by decide +kernel)
theorem rstep_lit {h h' : H} (fine : Fine h) {id o d a b n : Int} {e : Eff} (he : stepV h id ⟨o, d, a, b, n⟩ = (h', e)) (w : World) :
    Calls Tryd.prog 17 #[hv h, .int .i64 id, iv o d a b n] w (OneV (.tuple #[hv h', .agg (eC e)]) w) := by
  cases hr : Rv.right ⟨o, d, a, b, n⟩ with
  | false =>
    unfold stepV at he
    rw [if_pos hr] at he
    injection he with e1 e2
    subst e1 e2
    exact rstep_bad hr
  | true =>
    obtain ⟨o1, o2, -, ra, rb, -⟩ := Rv.right_parts hr
    obtain ⟨a0, a1⟩ := reg_bd ra
    obtain ⟨b0, b1⟩ := reg_bd rb
    obtain ⟨A, hA⟩ := Int.eq_ofNat_of_zero_le a0
    obtain ⟨B, hB⟩ := Int.eq_ofNat_of_zero_le b0
    simp only at hA hB a0 a1 b0 b1 o1 o2
    subst hA hB
    have lA : A < 32 := by omega
    have lB : B < 32 := by omega
    refine rstep_all hr lA lB rfl rfl rfl (Lib.hid fun c => ?_) (Lib.hid fun c => ?_) (Lib.hid fun c => ?_) (Lib.hid fun c => ?_) (Lib.hid fun c => ?_) (Lib.hid fun c => ?_) (Lib.hid fun c => ?_) (Lib.hid fun c => ?_) (Lib.hid fun c => ?_) (Lib.hid fun c => ?_) (Lib.hid fun c => ?_) (Lib.hid fun c => ?_) (Lib.hid fun c => ?_) (Lib.hid fun c => ?_) (Lib.hid fun c => ?_) (Lib.hid fun c => ?_) (Lib.hid fun c => ?_) (Lib.hid fun c => ?_)
    · subst c; exact k_1 fine hr lA he
    · subst c; exact k_2 fine hr lA he
    · subst c; exact k_3 fine hr lA he
    · subst c; exact k_4 fine hr lA he
    · rcases form_66 o1 o2 c with rfl | rfl | rfl | rfl | rfl | rfl
      · exact k_5 fine hr lA he
      · exact k_6 fine hr lA he
      · exact k_7 fine hr lA he
      · exact k_8 fine hr lA he
      · exact k_9 fine hr lA he
      · exact k_10 fine hr lA he
    · subst c; exact k_11 fine hr lA he
    · subst c; exact k_12 fine hr lA he
    · subst c; exact k_39 fine hr lA he
    · subst c; exact k_46 fine hr lA he
    · subst c; exact k_47 fine hr lA he
    · subst c; exact k_48 fine hr lA he
    · subst c; exact k_49 fine hr lA he
    · rcases form_67 o1 o2 c with rfl | rfl | rfl
      · exact k_40 fine hr lA he
      · exact k_41 fine hr lA he
      · exact k_42 fine hr lA he
    · subst c; exact k_43 fine hr lA he
    · subst c; exact k_45 fine hr lA he
    · subst c; exact k_44 fine hr lA he
    · rcases form_82 o1 o2 c with rfl | rfl | rfl | rfl | rfl | rfl | rfl | rfl | rfl | rfl | rfl | rfl | rfl | rfl | rfl | rfl | rfl
      · exact k_22 fine hr lA he
      · exact k_23 fine hr lA he
      · exact k_24 fine hr lA he
      · exact k_25 fine hr lA he
      · exact k_26 fine hr lA he
      · exact k_27 fine hr lA he
      · exact k_28 fine hr lA he
      · exact k_29 fine hr lA he
      · exact k_30 fine hr lA he
      · exact k_31 fine hr lA he
      · exact k_32 fine hr lA he
      · exact k_33 fine hr lA he
      · exact k_34 fine hr lA he
      · exact k_35 fine hr lA he
      · exact k_36 fine hr lA he
      · exact k_37 fine hr lA he
      · exact k_38 fine hr lA he
    · have n66 := c
      have : o = 13 ∨ o = 14 ∨ o = 15 ∨ o = 16 ∨ o = 17 ∨ o = 18 ∨ o = 19 ∨ o = 20 ∨ o = 21 := by
        obtain ⟨n1, n2, n3, n4, f66, n11, n12, n39, n46, n47, n48, n49, f67, n43, n45, n44, f82⟩ := c
        have k66 : ¬ (5 ≤ o ∧ o ≤ 10) := fun k => f66 (by have h3 : o = 5 ∨ o = 6 ∨ o = 7 ∨ o = 8 ∨ o = 9 ∨ o = 10 := (by omega); rcases h3 with rfl | rfl | rfl | rfl | rfl | rfl <;> decide +kernel)
        have k67 : ¬ (40 ≤ o ∧ o ≤ 42) := fun k => f67 (by have h3 : o = 40 ∨ o = 41 ∨ o = 42 := (by omega); rcases h3 with rfl | rfl | rfl <;> decide +kernel)
        have k82 : ¬ (22 ≤ o ∧ o ≤ 38) := fun k => f82 (by have h3 : o = 22 ∨ o = 23 ∨ o = 24 ∨ o = 25 ∨ o = 26 ∨ o = 27 ∨ o = 28 ∨ o = 29 ∨ o = 30 ∨ o = 31 ∨ o = 32 ∨ o = 33 ∨ o = 34 ∨ o = 35 ∨ o = 36 ∨ o = 37 ∨ o = 38 := (by omega); rcases h3 with rfl | rfl | rfl | rfl | rfl | rfl | rfl | rfl | rfl | rfl | rfl | rfl | rfl | rfl | rfl | rfl | rfl <;> decide +kernel)
        omega
      rcases this with rfl | rfl | rfl | rfl | rfl | rfl | rfl | rfl | rfl
      · exact k_13 fine hr lA he
      · exact k_14 fine hr lA he
      · exact k_15 fine hr lA he
      · exact k_16 fine hr lA he
      · exact k_17 fine hr lA he
      · exact k_18 fine hr lA he
      · exact k_19 fine hr lA he
      · exact k_20 fine hr lA he
      · exact k_21 fine hr lA he
end Go.Proofs.YtgcgdjmlngfpeaaDoor
