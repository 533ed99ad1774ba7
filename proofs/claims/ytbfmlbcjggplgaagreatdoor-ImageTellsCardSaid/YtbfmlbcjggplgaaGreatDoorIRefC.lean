/- An image's text and its sum, by the document's own functions. -/
import Derived.Test.YtbfmlbcjggplgaaGreatDoorIRefB
namespace Go.Proofs.YtbfmlbcjggplgaaGreatDoor
open Go.RowKit Im
set_option linter.unusedVariables false
set_option linter.unusedSimpArgs false
theorem rdig10 {n : Int} {S : ByteArray} (h : str (Lib.itoa n) = S) (h0 : 0 ≤ n) (h1 : n ≤ 4096) (w : World) :
    Calls Tryz.prog 24 #[.int .i64 n, .int .i64 10, .int .i64 1] w fun e w' => e = .returned (.string S) ∧ ∃ q, w' = w.drewN q := by
  obtain ⟨k, rfl⟩ : ∃ k : Nat, n = k := ⟨n.toNat, by omega⟩
  obtain ⟨e1, e2⟩ := dig10 5 k 1 (by omega) (by omega) (by omega)
  exact digits_any (Or.inl rfl) 5 k 1 S e2 (by rw [e1, ← h]; unfold Lib.itoa; rw [if_neg (by omega)]; rfl) (by omega) (by omega) (by omega) (by omega) w
theorem rdig16 {n : Int} {S : ByteArray} (h : str (hex8 n) = S) (h0 : 0 ≤ n) (h1 : n ≤ 4294967295) (w : World) :
    Calls Tryz.prog 24 #[.int .i64 n, .int .i64 16, .int .i64 8] w fun e w' => e = .returned (.string S) ∧ ∃ q, w' = w.drewN q := by
  obtain ⟨k, rfl⟩ : ∃ k : Nat, n = k := ⟨n.toNat, by omega⟩
  exact digits_any (Or.inr rfl) 8 k 8 S (dig16_stops (by omega)) (by rw [dig16 (by omega), ← h]) (by omega) (by omega) (by omega) (by omega) w
theorem rdig16Q {n : Int} {S : ByteArray} (h : str (hex8 n) = S) (h0 : 0 ≤ n) (h1 : n ≤ 4294967295) (w : World) (k : Nat) :
    Calls Tryz.prog 24 #[.int .i64 n, .int .i64 16, .int .i64 8] (w.drewN k) fun e w' => e = .returned (.string S) ∧ ∃ q, w' = w.drewN q := by
  refine (rdig16 h h0 h1 _).mono ?_
  rintro e w' ⟨h, q, rfl⟩
  exact ⟨h, k + q, World.drewN_drewN ..⟩
set_option maxRecDepth 100000 in
set_option maxHeartbeats 8000000 in
theorem rHead_lit {wp sp : Option Addr} {wc sc : Nat} {m : Img} {S : ByteArray} (hr : right m = true) (hS : str (body m) = S) (w : World) (H : Hid (ImgAt w wp sp m)) :
    Calls Tryz.prog 23 #[imgV wp sp wc sc m] w fun e w' => e = .returned (.string S) ∧ Bel w w' := by
  have HL : Hid ((body m).length ≤ 700000) := Lib.hid (body_len hr)
  have HRR := Lib.hid hr
  have HS := Lib.hid hS
  have lw := H.out.lw
  have ls := H.out.ls
  obtain ⟨_, _, m1, m2, hwds, hsys⟩ := right_parts hr
  have HWDS := Lib.hid hwds
  clear hS hr hwds hsys
  obtain ⟨D, hD⟩ : ∃ D, str (Lib.itoa m.mem) = D := ⟨_, rfl⟩
  have HD := Lib.hid hD
  clear hD
  have hbx := heap_alloc_new w (.cells #[.slice wp m.words.length wc, .int .i64 m.mem, .slice sp m.syms.length sc] 25)
  have hb0 := (Bel.refl w).alloc #[.slice wp m.words.length wc, .int .i64 m.mem, .slice sp m.syms.length sc] 25
  have e1 : (⟨#[105, 109, 97, 103, 101, 32]⟩ ++ D : ByteArray) ++ ⟨#[10]⟩ = str (bodyS m 0) := by
    rw [← HD.out, show (⟨#[105, 109, 97, 103, 101, 32]⟩ : ByteArray) = str [105, 109, 97, 103, 101, 32] from rfl, show (⟨#[10]⟩ : ByteArray) = str [10] from rfl, str_app, str_app]
    congr 1
    simp [bodyS, headB, symsT]
  have z : D.size ≤ 700000 := by
    have := congrArg ByteArray.size e1
    rw [ByteArray.size_append, ByteArray.size_append, str_size] at this
    have := Nat.le_trans (bodyS_le m 0) HL.out
    omega
  have z1 : (⟨#[105, 109, 97, 103, 101, 32]⟩ : ByteArray).size + D.size ≤ 9223372036854775807 := by show 6 + D.size ≤ _; omega
  have z2 : (⟨#[105, 109, 97, 103, 101, 32]⟩ ++ D : ByteArray).size + (⟨#[10]⟩ : ByteArray).size ≤ 9223372036854775807 := by rw [ByteArray.size_append]; show 6 + D.size + 1 ≤ _; omega
  have HE1 := Lib.hid e1
  clear e1 z
  go_enter Tryz.func23, Tryz.ntmps23
  go_wp2_with fail
  generalize w.alloc (.cells #[.slice wp m.words.length wc, .int .i64 m.mem, .slice sp m.syms.length sc] 25) = W0 at hbx hb0 ⊢
  obtain ⟨bx, hbxe⟩ : ∃ b, b = w.heap.size := ⟨_, rfl⟩
  rw [← hbxe] at hbx ⊢
  clear hbxe
  have HBX := Lib.hid hbx
  have HB0 := Lib.hid hb0
  clear hbx hb0
  refine (rdig10 HD.out m1 m2 _).mono ?_
  rintro e w1 ⟨rfl, q, hq⟩
  have HB1 : Hid (Bel w w1) := Lib.hid (by rw [hq]; exact HB0.out.drewN q)
  have HBX1 : Hid (w1.heap[bx]? = some (.cells #[.slice wp m.words.length wc, .int .i64 m.mem, .slice sp m.syms.length sc] 25 (0, 0))) := Lib.hid (by rw [hq]; exact HBX.out)
  clear hq
  go_wp2_with fail
  rw [HE1.out]
  clear z1 z2
  go_loopw [3, 4] (fun o i wr => ∃ (k : Nat) (T : ByteArray), k ≤ m.syms.length ∧ i = .int .i64 k ∧ o = .string T ∧ Hid (Bel w wr ∧ wr.heap[bx]? = some (.cells #[.slice wp m.words.length wc, .int .i64 m.mem, .slice sp m.syms.length sc] 25 (0, 0)) ∧ str (bodyS m k) = T)) (fun _ i _ => m.syms.length - (intOf i).toNat)
  case atStart => exact ⟨0, _, Nat.zero_le _, rfl, rfl, HB1.out, HBX1.out, rfl⟩
  case round =>
    obtain ⟨k, T, hk, rfl, rfl, HA⟩ := hrel
    have q0 := cell_of_heap HA.out.2.1 0
    have q2 := cell_of_heap HA.out.2.1 2
    simp only [List.getElem?_toArray, List.getElem?_cons_zero, List.getElem?_cons_succ] at q0 q2
    by_cases hlt : k < m.syms.length
    · obtain ⟨⟨xs, xp⟩, hx⟩ : ∃ x, m.syms[k]? = some x := ⟨_, List.getElem?_eq_getElem hlt⟩
      obtain ⟨b, o, hspe, hbl, e1, e2⟩ := SymsQ.get (H.out.syms.bel HA.out.1) hx
      subst hspe
      simp only at e1 e2
      have hk' : (k : Int) < (m.syms.length : Int) := by omega
      obtain ⟨X8, hX8⟩ : ∃ X, str (hex8 xp) = X := ⟨_, rfl⟩
      have hpl : isPl xp m.words.length = true := (right_name HRR.out (List.mem_of_getElem? hx)).2
      have hpl2 := right_parts HRR.out
      have hp : 0 ≤ xp ∧ xp ≤ 4 * (m.words.length : Int) ∧ xp % 4 = 0 := of_decide_eq_true hpl
      have p1 : 0 ≤ xp := hp.1
      have p2 : xp ≤ 4294967295 := by have := hpl2.1; omega
      have hsu := bodyS_succ hx
      have hle := Nat.le_trans (bodyS_le m (k + 1)) HL.out
      have hlk : T.size ≤ 700000 := by rw [← HA.out.2.2, str_size]; exact Nat.le_trans (bodyS_le m k) HL.out
      have hz8 : X8.size = 8 := by rw [← hX8]; rfl
      have hxs : xs.size ≤ 40 := (lab_size (right_name HRR.out (List.mem_of_getElem? hx)).1).2
      have z1 : T.size + X8.size ≤ 9223372036854775807 := by omega
      have z2 : (T ++ X8 : ByteArray).size + (⟨#[32]⟩ : ByteArray).size ≤ 9223372036854775807 := by rw [ByteArray.size_append]; show _ + 1 ≤ _; omega
      have z3 : (T ++ X8 ++ ⟨#[32]⟩ : ByteArray).size + xs.size ≤ 9223372036854775807 := by rw [ByteArray.size_append, ByteArray.size_append]; show _ + 1 + _ ≤ _; omega
      have z4 : (T ++ X8 ++ ⟨#[32]⟩ ++ xs : ByteArray).size + (⟨#[10]⟩ : ByteArray).size ≤ 9223372036854775807 := by rw [ByteArray.size_append, ByteArray.size_append, ByteArray.size_append]; show _ + 1 + _ + 1 ≤ _; omega
      have HNX : Hid (str (bodyS m (k + 1)) = T ++ X8 ++ ⟨#[32]⟩ ++ xs ++ ⟨#[10]⟩) := Lib.hid (by
        rw [← HA.out.2.2, ← hX8, hsu, ← str_of xs, show (⟨#[32]⟩ : ByteArray) = str [32] from rfl, show (⟨#[10]⟩ : ByteArray) = str [10] from rfl, str_app, str_app, str_app, str_app]
        simp [symT, str_list])
      have HLT := Lib.hid hlt
      have HX8 := Lib.hid hX8
      clear hx hlt hX8 hpl hpl2 hp hsu hle hlk hz8 hxs hbl
      go_wp2_with fail
      go_quiet ((go_at_call 24; with_reducible exact rdig16Q HX8.out p1 p2 _ _))
      go_wp2_with fail
      go_roundw
      case rel => exact ⟨k + 1, _, HLT.out, by go_num, rfl, HA.out.1.drewN _, HA.out.2.1, HNX.out⟩
      case measure => simp [intOf]; have := HLT.out; omega
    · obtain rfl : k = m.syms.length := by omega
      have hlk : T.size ≤ 700000 := by rw [← HA.out.2.2, str_size]; exact Nat.le_trans (bodyS_le m _) HL.out
      have z1 : T.size + (⟨#[99, 111, 100, 101, 10]⟩ : ByteArray).size ≤ 9223372036854775807 := by show _ + 5 ≤ _; omega
      have HC : Hid (T ++ ⟨#[99, 111, 100, 101, 10]⟩ = str (bodyW m 0)) := Lib.hid (by
        rw [bodyW_zero, ← HA.out.2.2, show (⟨#[99, 111, 100, 101, 10]⟩ : ByteArray) = str codeB from rfl, str_app])
      clear hlt hk hlk
      go_wp2_with fail
      rw [HC.out]
      have HA1 := Lib.hid (And.intro HA.out.1 HA.out.2.1)
      clear HA q0 q2 z1
      go_loopw [3, 5] (fun o i wr => ∃ (k : Nat) (T : ByteArray), k ≤ m.words.length ∧ i = .int .i64 k ∧ o = .string T ∧ Hid (Bel w wr ∧ wr.heap[bx]? = some (.cells #[.slice wp m.words.length wc, .int .i64 m.mem, .slice sp m.syms.length sc] 25 (0, 0)) ∧ str (bodyW m k) = T)) (fun _ i _ => m.words.length - (intOf i).toNat)
      case atStart => exact ⟨0, _, Nat.zero_le _, rfl, rfl, HA1.out.1, HA1.out.2, rfl⟩
      case round =>
        obtain ⟨k, T, hk, rfl, rfl, HA⟩ := hrel
        have q0 := cell_of_heap HA.out.2.1 0
        simp only [List.getElem?_toArray, List.getElem?_cons_zero, List.getElem?_cons_succ] at q0
        by_cases hlt : k < m.words.length
        · obtain ⟨x, hx⟩ : ∃ x, m.words[k]? = some x := ⟨_, List.getElem?_eq_getElem hlt⟩
          obtain ⟨b0, o0, hspe, hbl, e1⟩ := IntsQ.get (H.out.words.bel HA.out.1) hx
          subst hspe
          have hk' : (k : Int) < (m.words.length : Int) := by omega
          have hp : 0 ≤ x ∧ x ≤ 4294967295 := of_decide_eq_true (HWDS.out x (List.mem_of_getElem? hx))
          obtain ⟨p1, p2⟩ := hp
          have hsu := bodyW_succ hx
          have hlk : T.size ≤ 700000 := by rw [← HA.out.2.2, str_size]; exact Nat.le_trans (bodyW_le m k) HL.out
          obtain ⟨X8, hX8⟩ : ∃ X, str (hex8 x) = X := ⟨_, rfl⟩
          have hz8 : X8.size = 8 := by rw [← hX8]; rfl
          have z1 : T.size + X8.size ≤ 9223372036854775807 := by omega
          have z2 : (T ++ X8 : ByteArray).size + (⟨#[32]⟩ : ByteArray).size ≤ 9223372036854775807 := by rw [ByteArray.size_append]; show _ + 1 ≤ _; omega
          have z3 : (T ++ X8 : ByteArray).size + (⟨#[10]⟩ : ByteArray).size ≤ 9223372036854775807 := by rw [ByteArray.size_append]; show _ + 1 ≤ _; omega
          have HLT := Lib.hid hlt
          have HX8 := Lib.hid hX8
          have HN10 : Hid ((k % 8 = 7 ∨ k + 1 = m.words.length) → str (bodyW m (k + 1)) = T ++ X8 ++ ⟨#[10]⟩) := Lib.hid (fun h => by
            rw [hsu, wordT, if_pos h, ← HA.out.2.2, ← hX8, show (⟨#[10]⟩ : ByteArray) = str [10] from rfl, str_app, str_app, List.append_assoc])
          have HN32 : Hid (¬ (k % 8 = 7 ∨ k + 1 = m.words.length) → str (bodyW m (k + 1)) = T ++ X8 ++ ⟨#[32]⟩) := Lib.hid (fun h => by
            rw [hsu, wordT, if_neg h, ← HA.out.2.2, ← hX8, show (⟨#[32]⟩ : ByteArray) = str [32] from rfl, str_app, str_app, List.append_assoc])
          clear hx hX8 hsu hlk hz8 hbl hlt
          have vk : IntKind.i64.wrap ((k : Int) + 1) = (k : Int) + 1 := IntWalk.i64_in _ (by constructor <;> omega)
          by_cases h7 : k % 8 = 7
          · have v7 : ((k : Int) % 8 == 7) = true := by rw [beq_iff_eq]; omega
            have HNX := Lib.hid (HN10.out (Or.inl h7))
            clear h7 HN10 HN32
            go_wp2_with fail
            refine (rdig16 HX8.out p1 p2 _).mono ?_
            rintro e w7 ⟨rfl, q, rfl⟩
            go_wp2_with fail
            go_roundw
            case rel => exact ⟨k + 1, _, HLT.out, by go_num, rfl, HA.out.1.drewN _, HA.out.2.1, HNX.out⟩
            case measure => simp [intOf]; have := HLT.out; omega
          · have v7 : ((k : Int) % 8 == 7) = false := by rw [beq_eq_false_iff_ne]; omega
            by_cases he : k + 1 = m.words.length
            · have ve : ((k : Int) + 1 == (m.words.length : Int)) = true := by rw [beq_iff_eq]; omega
              have HNX := Lib.hid (HN10.out (Or.inr he))
              clear h7 he HN10 HN32
              go_wp2_with fail
              refine (rdig16 HX8.out p1 p2 _).mono ?_
              rintro e w7 ⟨rfl, q, rfl⟩
              go_wp2_with fail
              go_roundw
              case rel => exact ⟨k + 1, _, HLT.out, by go_num, rfl, HA.out.1.drewN _, HA.out.2.1, HNX.out⟩
              case measure => simp [intOf]; have := HLT.out; omega
            · have ve : ((k : Int) + 1 == (m.words.length : Int)) = false := by rw [beq_eq_false_iff_ne]; omega
              have HNX := Lib.hid (HN32.out (fun h => h.elim h7 he))
              clear h7 he HN10 HN32
              go_wp2_with fail
              refine (rdig16 HX8.out p1 p2 _).mono ?_
              rintro e w7 ⟨rfl, q, rfl⟩
              go_wp2_with fail
              go_roundw
              case rel => exact ⟨k + 1, _, HLT.out, by go_num, rfl, HA.out.1.drewN _, HA.out.2.1, HNX.out⟩
              case measure => simp [intOf]; have := HLT.out; omega
        · obtain rfl : k = m.words.length := by omega
          have e := HA.out.2.2
          rw [bodyW_full, HS.out] at e
          subst e
          go_wp2_with fail
          go_ret
          exact ⟨rfl, HA.out.1⟩
theorem rRight_lit {wp sp : Option Addr} {wc sc : Nat} {m : Img} {r : Bool} (h : right m = r) (w : World) (H : Hid (ImgAt w wp sp m)) :
    Calls Tryz.prog 10 #[imgV wp sp wc sc m] w fun e w' => e = .returned (.bool r) ∧ Bel w w' := by
  subst h
  exact rRight_any wp sp wc sc m w H
set_option maxHeartbeats 4000000 in
theorem rSum_lit {wp sp : Option Addr} {wc sc : Nat} {m : Img} {r : Int} (hr : right m = true) (hq : (sumOf (body m) : Int) = r) (w : World) (H : Hid (ImgAt w wp sp m)) :
    Calls Tryz.prog 12 #[imgV wp sp wc sc m] w fun e w' => e = .returned (.int .i64 r) ∧ Bel w w' := by
  have HR := Lib.hid hr
  obtain ⟨S, hS⟩ : ∃ S, str (body m) = S := ⟨_, rfl⟩
  have HS := Lib.hid hS
  have hz := body_len hr
  have hs : S.size ≤ 700000 := by rw [← hS, str_size]; exact hz
  have HF : Hid ((65536 * ((adTo S S.size).2 : Int) + ((adTo S S.size).1 : Int)) = r) := Lib.hid (by
    rw [adTo_full, ← hq]
    show _ = (((adler (body m)).2 * 65536 + (adler (body m)).1 : Nat) : Int)
    rw [← hS, str_list]
    omega)
  clear hr hS hq hz
  go_enter Tryz.func12, Tryz.ntmps12
  go_wp2_with fail
  have hb0 := (Bel.refl w).alloc (boxV wp sp wc sc m) 25
  have hx0 := heap_alloc_new w (.cells (boxV wp sp wc sc m) 25)
  generalize w.alloc (.cells (boxV wp sp wc sc m) 25) = W0 at hb0 hx0 ⊢
  obtain ⟨bx, hbx⟩ : ∃ b, b = w.heap.size := ⟨_, rfl⟩
  rw [← hbx] at hx0 ⊢
  have HX0 := Lib.hid hx0
  have HB0 := Lib.hid hb0
  clear hb0 hx0 hbx
  refine (rRight_lit HR.out _ (Lib.hid (H.out.bel HB0.out))).mono ?_
  rintro e W1 ⟨rfl, hb⟩
  have HB := Lib.hid (HB0.out.trans hb)
  have hx1 := hb.stays HX0.out
  have q0 : W1.cell? ⟨bx, 0, none⟩ = some (.slice wp m.words.length wc) := cell_of_heap hx1 0
  have q1 : W1.cell? ⟨bx, 1, none⟩ = some (.int .i64 m.mem) := cell_of_heap hx1 1
  have q2 : W1.cell? ⟨bx, 2, none⟩ = some (.slice sp m.syms.length sc) := cell_of_heap hx1 2
  clear hb hx1
  go_wp2_with fail
  refine (rHead_lit HR.out HS.out _ (Lib.hid (H.out.bel HB.out))).mono ?_
  rintro e W2 ⟨rfl, hb⟩
  have HB2 := Lib.hid (HB.out.trans hb)
  clear hb q0 q1 q2
  go_wp2_with fail
  go_loop [5, 6, 7] (fun a b i => ∃ k p q : Nat, k ≤ S.size ∧ i = .int .i64 k ∧ a = .int .i64 p ∧ b = .int .i64 q ∧ p < 65521 ∧ q < 65521 ∧ Hid (adTo S k = (p, q))) (fun _ _ i => S.size - (intOf i).toNat)
  case atStart => exact ⟨0, 1, 0, Nat.zero_le _, rfl, rfl, rfl, by decide, by decide, Lib.hid rfl⟩
  case round =>
    obtain ⟨k, p, q, hk, rfl, rfl, rfl, hp, hq, HA⟩ := hrel
    by_cases hlt : k < S.size
    · have hsn := adTo_succ S k hlt
      rw [HA.out] at hsn
      have hc : S[k].toNat < 256 := S[k].toNat_lt
      have HS := Lib.hid hsn
      clear hsn
      go_wp2
      go_round
      case rel => exact ⟨k + 1, (p + S[k].toNat) % 65521, (q + (p + S[k].toNat) % 65521) % 65521, by omega, by go_num, by go_num, by go_num, by omega, by omega, HS.out⟩
      case measure => simp [intOf]; omega
    · obtain rfl : k = S.size := by omega
      have hr : 65536 * (q : Int) + p = r := by
        have h1 := HF.out
        rw [HA.out] at h1
        exact h1
      have HR := Lib.hid hr
      clear hr
      go_wp2
      go_ret
      exact ⟨ri HR.out, HB2.out⟩
set_option maxHeartbeats 4000000 in
theorem rSum_no {wp sp : Option Addr} {wc sc : Nat} {m : Img} (hr : right m = false) (w : World) (H : Hid (ImgAt w wp sp m)) :
    Calls Tryz.prog 12 #[imgV wp sp wc sc m] w fun e w' => e = .returned (.int .i64 0) ∧ Bel w w' := by
  have HR := Lib.hid hr
  clear hr
  go_enter Tryz.func12, Tryz.ntmps12
  go_wp2_with fail
  have hb0 := (Bel.refl w).alloc (boxV wp sp wc sc m) 25
  have hx0 := heap_alloc_new w (.cells (boxV wp sp wc sc m) 25)
  generalize w.alloc (.cells (boxV wp sp wc sc m) 25) = W0 at hb0 hx0 ⊢
  obtain ⟨bx, hbx⟩ : ∃ b, b = w.heap.size := ⟨_, rfl⟩
  rw [← hbx] at hx0 ⊢
  have HX0 := Lib.hid hx0
  have HB0 := Lib.hid hb0
  clear hb0 hx0 hbx
  refine (rRight_lit HR.out _ (Lib.hid (H.out.bel HB0.out))).mono ?_
  rintro e W1 ⟨rfl, hb⟩
  have HB := Lib.hid (HB0.out.trans hb)
  clear hb
  go_wp2_with fail
  go_ret
  exact ⟨rfl, HB.out⟩
set_option maxHeartbeats 4000000 in
theorem rPrint_no {wp sp : Option Addr} {wc sc : Nat} {m : Img} (hr : right m = false) (w : World) (H : Hid (ImgAt w wp sp m)) :
    Calls Tryz.prog 8 #[imgV wp sp wc sc m] w fun e w' => e = .returned (.tuple #[.string ⟨#[]⟩, .int .i64 1]) ∧ Bel w w' := by
  have HR := Lib.hid hr
  clear hr
  go_enter Tryz.func8, Tryz.ntmps8
  go_wp2_with fail
  have hb0 := (Bel.refl w).alloc (boxV wp sp wc sc m) 25
  have hx0 := heap_alloc_new w (.cells (boxV wp sp wc sc m) 25)
  generalize w.alloc (.cells (boxV wp sp wc sc m) 25) = W0 at hb0 hx0 ⊢
  obtain ⟨bx, hbx⟩ : ∃ b, b = w.heap.size := ⟨_, rfl⟩
  rw [← hbx] at hx0 ⊢
  have HX0 := Lib.hid hx0
  have HB0 := Lib.hid hb0
  clear hb0 hx0 hbx
  refine (rRight_lit HR.out _ (Lib.hid (H.out.bel HB0.out))).mono ?_
  rintro e W1 ⟨rfl, hb⟩
  have HB := Lib.hid (HB0.out.trans hb)
  clear hb
  go_wp2_with fail
  go_ret2
  exact ⟨rfl, HB.out⟩
def C3 (bx : Nat) (wp sp : Option Addr) (wc sc : Nat) (m : Img) (w' : World) : Prop := w'.cell? ⟨bx, 0, none⟩ = some (.slice wp m.words.length wc) ∧ w'.cell? ⟨bx, 1, none⟩ = some (.int .i64 m.mem) ∧ w'.cell? ⟨bx, 2, none⟩ = some (.slice sp m.syms.length sc)
set_option maxHeartbeats 4000000 in
theorem rPrint_yes {wp sp : Option Addr} {wc sc : Nat} {m : Img} {T : ByteArray} (hr : right m = true) (hT : str (text m) = T) (w : World) (H : Hid (ImgAt w wp sp m)) :
    Calls Tryz.prog 8 #[imgV wp sp wc sc m] w fun e w' => e = .returned (.tuple #[.string T, .int .i64 0]) ∧ Bel w w' := by
  have HR := Lib.hid hr
  obtain ⟨S, hS⟩ : ∃ S, str (body m) = S := ⟨_, rfl⟩
  have HS := Lib.hid hS
  have hz := body_len hr
  have hs : S.size ≤ 700000 := by rw [← hS, str_size]; exact hz
  obtain ⟨n, hn⟩ : ∃ n, sumOf (body m) = n := ⟨_, rfl⟩
  have hn2 := sumOf_lt (body m)
  rw [hn] at hn2
  obtain ⟨D, hD⟩ : ∃ D, str (hex8 n) = D := ⟨_, rfl⟩
  have hz8 : D.size = 8 := by rw [← hD]; rfl
  have hTT : S ++ ⟨#[115, 117, 109, 32]⟩ ++ D ++ ⟨#[10]⟩ = T := by
    rw [← hT, ← hS, ← hD, show (⟨#[115, 117, 109, 32]⟩ : ByteArray) = str [115, 117, 109, 32] from rfl, show (⟨#[10]⟩ : ByteArray) = str [10] from rfl, str_app, str_app, str_app, List.append_assoc, List.append_assoc]
    unfold text
    rw [hn]
    rfl
  have z1 : S.size + (⟨#[115, 117, 109, 32]⟩ : ByteArray).size ≤ 9223372036854775807 := by show _ + 4 ≤ _; omega
  have z2 : (S ++ ⟨#[115, 117, 109, 32]⟩ : ByteArray).size + D.size ≤ 9223372036854775807 := by rw [ByteArray.size_append]; show _ + 4 + _ ≤ _; omega
  have z3 : (S ++ ⟨#[115, 117, 109, 32]⟩ ++ D : ByteArray).size + (⟨#[10]⟩ : ByteArray).size ≤ 9223372036854775807 := by rw [ByteArray.size_append, ByteArray.size_append]; show _ + 4 + _ + 1 ≤ _; omega
  have y1 : ¬ 9223372036854775807 < S.size + 4 := by omega
  have y2 : ¬ 9223372036854775807 < S.size + 4 + D.size := by omega
  have y3 : ¬ 9223372036854775807 < S.size + 4 + D.size + 1 := by omega
  have HTT := Lib.hid hTT
  have HN := Lib.hid hn
  have HD := Lib.hid hD
  clear hr hS hz hT hTT hn hD hz8
  go_enter Tryz.func8, Tryz.ntmps8
  go_wp2_with fail
  have hb0 := (Bel.refl w).alloc (boxV wp sp wc sc m) 25
  have hx0 := heap_alloc_new w (.cells (boxV wp sp wc sc m) 25)
  generalize w.alloc (.cells (boxV wp sp wc sc m) 25) = W0 at hb0 hx0 ⊢
  obtain ⟨bx, hbx⟩ : ∃ b, b = w.heap.size := ⟨_, rfl⟩
  rw [← hbx] at hx0 ⊢
  have HX0 := Lib.hid hx0
  have HB0 := Lib.hid hb0
  clear hb0 hx0 hbx
  refine (rRight_lit HR.out _ (Lib.hid (H.out.bel HB0.out))).mono ?_
  rintro e W1 ⟨rfl, hb⟩
  have HB := Lib.hid (HB0.out.trans hb)
  have hx1 := hb.stays HX0.out
  clear hb
  go_wp2_with fail
  have HW1 : Hid (∀ W, Bel W1 W → C3 bx wp sp wc sc m W) := Lib.hid (fun W h => by
    have g := h.stays hx1
    exact ⟨cell_of_heap g 0, cell_of_heap g 1, cell_of_heap g 2⟩)
  clear hx1
  refine wp_region_held_drew (S := C3 bx wp sp wc sc m) (by kernel_rfl) (HW1.out _ (Bel.refl _).drew) (fun hS => ?_)
  refine takeD 9 (i := 0) (v := ?v1) rfl rfl (by kernel_rfl) (by kernel_rfl) (by kernel_rfl) (fun _ _ _ h => h) (by kernel_rfl) ?hy1 hS ?rest1
  case hy1 => (intro w0 hSw; obtain ⟨s0, s1, s2⟩ := hSw; first | (go_simp; done) | (go_simp; with_reducible rfl))
  simp only [List.setIfInBounds_toArray, List.set_cons_zero, List.set_cons_succ]
  refine takeD 12 (i := 3) (v := ?v2) rfl rfl (by kernel_rfl) (by kernel_rfl) (by kernel_rfl) (fun _ _ _ h => h) (by kernel_rfl) ?hy2 hS ?rest2
  case hy2 => (intro w0 hSw; obtain ⟨s0, s1, s2⟩ := hSw; first | (go_simp; done) | (go_simp; with_reducible rfl))
  simp only [List.setIfInBounds_toArray, List.set_cons_zero, List.set_cons_succ]
  refine onlyD 10 (i := 1) rfl rfl (by kernel_rfl) (by kernel_rfl) (fun K hK => ?_)
  go_simp
  go_at_call 23
  refine (rHead_lit HR.out HS.out _ (Lib.hid (H.out.bel (HB.out.trans (Bel.refl _).drew)))).mono ?_
  rintro e W2 ⟨rfl, hb2⟩
  have HB2 : Hid (Bel W1 W2) := Lib.hid (((Bel.refl W1).drew).trans hb2)
  have hS2 := HW1.out _ HB2.out
  clear hb2
  refine hK.out _ _ hS2 (fun _ => ?_)
  clear hK K
  refine takeD 11 (i := 2) (v := ?v3) rfl rfl (by kernel_rfl) (by kernel_rfl) (by kernel_rfl) (fun _ _ _ h => h) (by kernel_rfl) ?hy3 hS2 ?rest3
  case hy3 => (intro w0 hSw; obtain ⟨s0, s1, s2⟩ := hSw; first | (go_simp; done) | (go_simp; with_reducible rfl))
  simp only [List.setIfInBounds_toArray, List.set_cons_zero, List.set_cons_succ]
  refine onlyD 13 (i := 4) rfl rfl (by kernel_rfl) (by kernel_rfl) (fun K hK => ?_)
  go_simp
  go_at_call 12
  refine (rSum_lit HR.out (congrArg Int.ofNat HN.out) _ (Lib.hid (H.out.bel (HB.out.trans HB2.out)))).mono ?_
  rintro e W3 ⟨rfl, hb3⟩
  have HB3 : Hid (Bel W1 W3) := Lib.hid (HB2.out.trans hb3)
  have hS3 := HW1.out _ HB3.out
  clear hb3
  refine hK.out _ _ hS3 (fun _ => ?_)
  clear hK K
  refine onlyD 14 (i := 5) rfl rfl (by kernel_rfl) (by kernel_rfl) (fun K hK => ?_)
  go_simp
  go_at_call 24
  refine (rdig16 HD.out (by omega) (by omega) _).mono ?_
  rintro e W4 ⟨rfl, q, hq⟩
  have HB4 : Hid (Bel W1 W4) := Lib.hid (by rw [hq]; exact HB3.out.drewN q)
  have hS4 := HW1.out _ HB4.out
  clear hq
  refine hK.out _ _ hS4 (fun _ => ?_)
  clear hK K
  refine takeD 15 (i := 6) (v := ?v4) rfl rfl (by kernel_rfl) (by kernel_rfl) (by kernel_rfl) (fun _ _ _ h => h) (by kernel_rfl) ?hy4 hS4 ?rest4
  case hy4 => (intro w0 hSw; obtain ⟨s0, s1, s2⟩ := hSw; first | (go_simp; done) | (go_simp; with_reducible rfl))
  simp only [List.setIfInBounds_toArray, List.set_cons_zero, List.set_cons_succ]
  refine takeD 16 (i := 7) (v := ?v5) rfl rfl (by kernel_rfl) (by kernel_rfl) (by kernel_rfl) (fun _ _ _ h => h) (by kernel_rfl) ?hy5 hS4 ?rest5
  case hy5 => (intro w0 hSw; obtain ⟨s0, s1, s2⟩ := hSw; first | (go_simp; done) | (go_simp; with_reducible rfl))
  simp only [List.setIfInBounds_toArray, List.set_cons_zero, List.set_cons_succ]
  refine takeD 2 (i := 8) (v := ?v6) rfl rfl (by kernel_rfl) (by kernel_rfl) (by kernel_rfl) (fun _ _ _ h => h) (by kernel_rfl) ?hy6 hS4 ?rest6
  case hy6 => (intro w0 hSw; obtain ⟨s0, s1, s2⟩ := hSw; first | (go_simp; done) | (go_simp; with_reducible rfl))
  simp only [List.setIfInBounds_toArray, List.set_cons_zero, List.set_cons_succ]
  refine takeD 3 (i := 9) (v := ?v7) rfl rfl (by kernel_rfl) (by kernel_rfl) (by kernel_rfl) (fun _ _ _ h => h) (by kernel_rfl) ?hy7 hS4 ?rest7
  case hy7 => (intro w0 hSw; obtain ⟨s0, s1, s2⟩ := hSw; first | (go_simp; done) | (go_simp; with_reducible rfl))
  simp only [List.setIfInBounds_toArray, List.set_cons_zero, List.set_cons_succ]
  refine wpAnyH_done (by kernel_rfl) ?_ _
  have HBW : Hid (Bel w W4) := Lib.hid (HB.out.trans HB4.out)
  clear hS hS2 hS3 hS4
  go_wp2_with fail
  go_ret2
  exact ⟨by rw [HTT.out]; rfl, HBW.out⟩
end Go.Proofs.YtbfmlbcjggplgaaGreatDoor
