/- A byte that begins no token, put into a text of tokens, is told, at its line. -/
import Derived.Test.YtgameoiofikhmaaDoorTItems
namespace Go.Proofs.YtgameoiofikhmaaDoor
open Go.RowKit Tk
set_option linter.unusedVariables false
def bads : Bs := [64, 36, 63, 58, 44, 34, 39, 96, 92]
theorem bad_idx (q : Nat) (hq : q < 9) (w : World) : (Instr.index 9 (.string ⟨#[64, 36, 63, 58, 44, 34, 39, 96, 92]⟩) (.int .i64 (q : Int))).run Tryd.prog w = .ok (.int .u8 ((bads.getD q 0).toNat : Int)) w := by
  match q, hq with
  | 0, _ => show _ = _; kernel_rfl
  | 1, _ => show _ = _; kernel_rfl
  | 2, _ => show _ = _; kernel_rfl
  | 3, _ => show _ = _; kernel_rfl
  | 4, _ => show _ = _; kernel_rfl
  | 5, _ => show _ = _; kernel_rfl
  | 6, _ => show _ = _; kernel_rfl
  | 7, _ => show _ = _; kernel_rfl
  | 8, _ => show _ = _; kernel_rfl
  | q + 9, hq => exact absurd hq (by omega)
theorem bad_mem {q : Nat} (hq : q < 9) : bads.getD q 0 ∈ bads := by
  rw [List.getD_eq_getElem?_getD, List.getElem?_eq_getElem (show q < bads.length from hq)]
  exact List.getElem_mem _
theorem bad_plain : ∀ c ∈ bads, isRun c = false ∧ c.toNat ≠ 32 ∧ c.toNat ≠ 9 ∧ c.toNat ≠ 10 ∧ c.toNat ≠ 35 ∧ ∀ g ∈ signs, g.head? ≠ some c := by decide
theorem scan_badc {c : UInt8} (hc : c ∈ bads) (R : Bs) (n : Nat) : scan (c :: R) n = .err n := by
  obtain ⟨h1, h2, h3, h4, h5, h6⟩ := bad_plain c hc
  refine scan_bad n (by simp) ?_ ?_ ?_
  · show (if c.toNat = 32 ∨ c.toNat = 9 ∨ c.toNat = 10 then 1 else if c.toNat = 35 then 1 + (R.takeWhile fun x => decide (x.toNat ≠ 10)).length else 0) = 0
    rw [if_neg (by omega), if_neg h5]
  · unfold runLen
    rw [List.takeWhile_cons, if_neg (by rw [h1]; exact Bool.false_ne_true)]
    rfl
  · unfold signAt
    rw [List.find?_eq_none]
    intro g hg hp
    have hs := sign_short g hg
    cases g with
    | nil => simp at hs
    | cons d t =>
      rw [List.isPrefixOf_iff_prefix] at hp
      obtain ⟨u, hu⟩ := hp
      rw [List.cons_append, List.cons.injEq] at hu
      exact h6 _ hg (by rw [hu.1]; rfl)
def nl (raw : List (Int × Int)) (k : Nat) : List Tk.Item := (List.range k).map fun i => itemOf (raw.getD i (0, 0)) [10]
theorem nl_ok (raw : List (Int × Int)) (k : Nat) : ∀ x ∈ nl raw k, x.ok := by
  intro x hx
  obtain ⟨i, _, rfl⟩ := List.mem_map.1 hx
  exact item_ok _ (by decide)
theorem nl_text (raw : List (Int × Int)) (k : Nat) {x : Int × Int} (h : raw[k]? = some x) : textOf (nl raw (k + 1)) = textOf (nl raw k) ++ (pieceV x.1 x.2 ++ [10]) := by
  unfold nl
  rw [List.range_succ, List.map_append, List.map_cons, List.map_nil, textOf_snoc, getD_of h]
  rfl
theorem nl_feeds (raw : List (Int × Int)) : ∀ k : Nat, feeds (textOf (nl raw k)) = k := by
  intro k
  induction k with
  | zero => rfl
  | succ k ih =>
    have e : textOf (nl raw (k + 1)) = textOf (nl raw k) ++ (pieceV (raw.getD k (0, 0)).1 (raw.getD k (0, 0)).2 ++ [10]) := by
      unfold nl
      rw [List.range_succ, List.map_append, List.map_cons, List.map_nil, textOf_snoc]
      rfl
    rw [e, feeds_app, feeds_app, ih, good_feeds (piece_good _ _)]
    rfl
/-- what the loop has laid when i rounds are through -/
def Laid (raw : List (Int × Int)) (c : UInt8) (k i : Nat) (T : Bs) : Prop := (i ≤ k → T = textOf (nl raw i)) ∧ (k < i → ∃ R, T = textOf (nl raw k) ++ c :: R)
theorem scan_laid {raw : List (Int × Int)} {c : UInt8} {k : Nat} (hc : c ∈ bads) (R : Bs) : scan (textOf (nl raw k) ++ c :: R) 1 = .err (k + 1) := by
  rw [scan_items (nl raw k) (nl_ok raw k) (c :: R) 1, scan_badc hc, nl_feeds, Nat.add_comm]
  rfl
theorem laid_step {raw : List (Int × Int)} {c : UInt8} {k i : Nat} {T : Bs} (h : Laid raw c k i T) (hi : i ≠ k) {x : Int × Int} (hx : raw[i]? = some x) : Laid raw c k (i + 1) (T ++ (pieceV x.1 x.2 ++ [10])) := by
  refine ⟨fun hk => ?_, fun hk => ?_⟩
  · rw [nl_text raw i hx, h.1 (by omega)]
  · obtain ⟨R, hR⟩ := h.2 (by omega)
    exact ⟨R ++ (pieceV x.1 x.2 ++ [10]), by rw [hR, List.append_assoc, List.cons_append]⟩
theorem laid_here {raw : List (Int × Int)} {c : UInt8} {k : Nat} {T : Bs} (h : Laid raw c k k T) (Y : Bs) : Laid raw c k (k + 1) (T ++ ([c] ++ Y)) := by
  refine ⟨fun hk => by omega, fun _ => ⟨Y, ?_⟩⟩
  rw [h.1 (Nat.le_refl _)]
  rfl
set_option maxRecDepth 100000 in
set_option maxHeartbeats 8000000 in
theorem wrong_walk (p : Option Addr) (n c : Nat) (raw : List (Int × Int)) (a1 a2 : Int) (w : World) (hn : raw.length = n) (hn2 : n ≤ 9223372036854775807) (HP : Hid (PairsQ w p raw)) (h1 : inInt a1) (h2 : inInt a2) (hT : SignsAt w) :
    Calls Tryd.prog 6 #[.slice p n c, .int .i64 a1, .int .i64 a2] w fun e w' => e = .returned (.bool true) ∧ Bel w w' := by
  have ex0 : ∀ (x y z : Value) (W : World), (Instr.extract (.tuple #[x, y, z]) 0).run Tryd.prog W = .ok x W := fun x y z W => by kernel_rfl
  have ex1 : ∀ (x y z : Value) (W : World), (Instr.extract (.tuple #[x, y, z]) 1).run Tryd.prog W = .ok y W := fun x y z W => by kernel_rfl
  have ex2 : ∀ (x y z : Value) (W : World), (Instr.extract (.tuple #[x, y, z]) 2).run Tryd.prog W = .ok z W := fun x y z W => by kernel_rfl
  have HT := Lib.hid hT
  have HN := Lib.hid hn
  obtain ⟨N, hN⟩ : ∃ N, min n 30 = N := ⟨_, rfl⟩
  have hN1 : N ≤ 30 := by omega
  have hN2 : N ≤ n := by omega
  have hmin : min (n : Int) 30 = (N : Int) := by omega
  obtain ⟨q, hq, hpq⟩ := pick_nat_of a2 9 (by omega)
  have hix := bad_idx q hq
  have hbm := bad_mem hq
  generalize bads.getD q 0 = bc at hix hbm
  obtain ⟨k, hk, hpk⟩ := pick_nat_of a1 (N + 1) (by omega)
  have HPQ : Hid (pick a2 9 = (q : Int)) := Lib.hid hpq
  have HPK : Hid (pick a1 ((N : Int) + 1) = (k : Int)) := Lib.hid hpk
  have HBM := Lib.hid hbm
  clear hT hn hN hpq hpk hbm
  go_enter Tryd.func6, Tryd.ntmps6
  go_wp2_with fail
  refine (awake_any _ HT.out).mono ?_
  rintro e w1 ⟨rfl, hb1⟩
  have HB1 := Lib.hid hb1
  clear hb1
  go_wp2_with (first | (go_at_call 17; ((with_reducible refine (pick_lit HPQ.out h2 (by omega) _).mono ?_); rintro e w2 ⟨rfl, rfl⟩)) | (go_at_call 17; ((with_reducible refine (pick_lit HPK.out h1 (by omega) _).mono ?_); rintro e w2 ⟨rfl, rfl⟩)))
  go_loopg [9, 12] N (fun gk s ii wr => ∃ i : Nat, ∃ T : Bs, i + gk = N ∧ s = .string (str T) ∧ ii = .int .i64 i ∧ T.length ≤ 13 * i ∧ Hid (Laid raw bc k i T) ∧ Hid (Bel w wr))
  case atStart => exact ⟨0, [], by omega, rfl, rfl, by simp, Lib.hid ⟨fun _ => rfl, fun h => by omega⟩, HB1⟩
  case round =>
    clear HB1
    obtain ⟨i, T, hkg, rfl, rfl, hTl, HLD, HB⟩ := hrel
    by_cases hlt : i < N
    · obtain ⟨⟨x, y⟩, hxy⟩ : ∃ xy, raw[i]? = some xy := ⟨_, List.getElem?_eq_getElem (by have := HN.out; omega)⟩
      obtain ⟨ix, iy, b, o, rfl, hbl, c0, c1⟩ := (HP.out.bel HB.out) i _ hxy
      have hk1 : (i : Int) < n := by omega
      have hk2 : (i : Int) < N := by omega
      obtain ⟨P, hP⟩ : ∃ P, pieceV x y = P := ⟨_, rfl⟩
      have hPl : P.length ≤ 10 := by rw [← hP]; exact piece_len x y
      have HPX : Hid (str (pieceV x y) = str P) := Lib.hid (by rw [hP])
      by_cases hik : i = k
      · have hik2 : ((i : Int) == (k : Int)) = true := by simp [hik]
        subst hik
        have hld := laid_here HLD.out ([32] ++ (P ++ [10]))
        have HL2 := Lib.hid hld
        have hkeep : ∀ w', Bel (wr.alloc (.cells #[.int .u8 (bc.toNat : Int)] 5)) w' → w'.cell? ⟨b, o + i * 2, none⟩ = some (.int .i64 x) ∧ w'.cell? ⟨b, o + i * 2 + 1, none⟩ = some (.int .i64 y) := fun w' h =>
          have h' := ((Bel.refl wr).alloc _ _).trans h
          ⟨(h'.cell (p := ⟨b, o + i * 2, none⟩) hbl).trans c0, (h'.cell (p := ⟨b, o + i * 2 + 1, none⟩) hbl).trans c1⟩
        have HKEEP := Lib.hid hkeep
        have hcv := one_byte wr.heap.size (wr.alloc (.cells #[.int .u8 (bc.toNat : Int)] 5)) bc _ rfl (World.cell?_alloc_new _ _ _ 0)
        have e1 := str_app T [bc]
        have e2 : str (T ++ [bc]) ++ ⟨#[32]⟩ = str (T ++ ([bc] ++ [32])) := by rw [← List.append_assoc]; exact str_app _ [32]
        have e3 := str_app (T ++ ([bc] ++ [32])) P
        have e4 : str (T ++ ([bc] ++ [32]) ++ P) ++ ⟨#[10]⟩ = str (T ++ ([bc] ++ ([32] ++ (P ++ [10])))) := by
          rw [show T ++ ([bc] ++ ([32] ++ (P ++ [10]))) = T ++ ([bc] ++ [32]) ++ P ++ [10] by simp]
          exact str_app _ [10]
        have z1 : (str T).size + (str [bc]).size ≤ 9223372036854775807 := by rw [str_size, str_size, List.length_singleton]; omega
        have z2 : (str (T ++ [bc])).size + 1 ≤ 9223372036854775807 := by rw [str_size]; simp; omega
        have z3 : (str (T ++ ([bc] ++ [32]))).size + (str P).size ≤ 9223372036854775807 := by rw [str_size, str_size]; simp; omega
        have z4 : (str (T ++ ([bc] ++ [32]) ++ P)).size + 1 ≤ 9223372036854775807 := by rw [str_size]; simp; omega
        have z5 : (⟨#[32]⟩ : ByteArray).size = 1 := rfl
        have z6 : (⟨#[10]⟩ : ByteArray).size = 1 := rfl
        have HZ : Hid ((T ++ ([bc] ++ ([32] ++ (P ++ [10])))).length ≤ 13 * (i + 1)) := Lib.hid (by simp; omega)
        generalize str (T ++ [bc]) = A1 at e1 e2 z2
        generalize str (T ++ ([bc] ++ [32])) = A2 at e2 e3 z3
        generalize str (T ++ ([bc] ++ [32]) ++ P) = A3 at e3 e4 z4
        obtain ⟨A4, hA4⟩ : ∃ A4, str (T ++ ([bc] ++ ([32] ++ (P ++ [10])))) = A4 := ⟨_, rfl⟩
        rw [hA4] at e4
        have HA4 := Lib.hid hA4
        clear hkeep hP hxy hld c0 c1 hbl HLD hA4
        go_wp2_with fail
        go_region_held3 (fun w' => w'.cell? ⟨b, o + i * 2, none⟩ = some (.int .i64 x) ∧ w'.cell? ⟨b, o + i * 2 + 1, none⟩ = some (.int .i64 y))
          (first | exact HKEEP.out _ ((Bel.refl _).drew.trans hb3) | exact HKEEP.out _ (Bel.refl _).drew)
          (first | (go_at_call 11; refine (piece_lit HPX.out rfl ix iy _).mono ?_; rintro e w' ⟨rfl, hb3⟩))
        rename_i hh
        clear hh
        have HB3 : Hid (Bel w w') := Lib.hid ((HB.out.alloc _ _).trans ((Bel.refl _).drew.trans hb3))
        clear hb3 HKEEP HB
        go_wp2_with fail
        go_roundg (gk - 1)
        case measure => omega
        case rel => exact ⟨i + 1, T ++ ([bc] ++ ([32] ++ (P ++ [10]))), by omega, by rw [HA4.out], by go_num, HZ.out, HL2, HB3⟩
      · have hik2 : ((i : Int) == (k : Int)) = false := by simp; omega
        have hld := laid_step HLD.out hik hxy
        rw [hP] at hld
        have HL2 := Lib.hid hld
        have hkeep : ∀ w', Bel wr w' → w'.cell? ⟨b, o + i * 2, none⟩ = some (.int .i64 x) ∧ w'.cell? ⟨b, o + i * 2 + 1, none⟩ = some (.int .i64 y) := fun w' h =>
          ⟨(h.cell (p := ⟨b, o + i * 2, none⟩) hbl).trans c0, (h.cell (p := ⟨b, o + i * 2 + 1, none⟩) hbl).trans c1⟩
        have HKEEP := Lib.hid hkeep
        have e3 := str_app T P
        have e4 : str (T ++ P) ++ ⟨#[10]⟩ = str (T ++ (P ++ [10])) := by
          rw [← List.append_assoc]
          exact str_app _ [10]
        have z3 : (str T).size + (str P).size ≤ 9223372036854775807 := by rw [str_size, str_size]; omega
        have z4 : (str (T ++ P)).size + 1 ≤ 9223372036854775807 := by rw [str_size]; simp; omega
        have z6 : (⟨#[10]⟩ : ByteArray).size = 1 := rfl
        have HZ : Hid ((T ++ (P ++ [10])).length ≤ 13 * (i + 1)) := Lib.hid (by simp; omega)
        clear hkeep hP hxy hld c0 c1 hbl HLD hik
        go_wp2_with fail
        go_region_held3 (fun w' => w'.cell? ⟨b, o + i * 2, none⟩ = some (.int .i64 x) ∧ w'.cell? ⟨b, o + i * 2 + 1, none⟩ = some (.int .i64 y))
          (first | exact HKEEP.out _ ((Bel.refl _).drew.trans hb3) | exact HKEEP.out _ (Bel.refl _).drew)
          (first | (go_at_call 11; refine (piece_lit HPX.out rfl ix iy _).mono ?_; rintro e w' ⟨rfl, hb3⟩))
        rename_i hh
        clear hh
        have HB3 : Hid (Bel w w') := Lib.hid (HB.out.trans ((Bel.refl _).drew.trans hb3))
        clear hb3 HKEEP HB
        go_wp2_with fail
        go_roundg (gk - 1)
        case measure => omega
        case rel => exact ⟨i + 1, T ++ (P ++ [10]), by omega, by first | rfl | rw [e3, e4], by go_num, HZ.out, HL2, HB3⟩
    · obtain rfl : i = N := by omega
      have hk1 : ¬ (i : Int) < i := by omega
      have HKA : Hid (UInt8 → True) := Lib.hid (fun _ => trivial)
      by_cases hki : k = i
      · subst hki
        have hki2 : ((k : Int) == (k : Int)) = true := by simp
        have hT0 := HLD.out.1 (Nat.le_refl _)
        have e1 := str_app T [bc]
        have hcv := one_byte wr.heap.size (wr.alloc (.cells #[.int .u8 (bc.toNat : Int)] 5)) bc _ rfl (World.cell?_alloc_new _ _ _ 0)
        have z1 : (str T).size + (str [bc]).size ≤ 9223372036854775807 := by rw [str_size, str_size, List.length_singleton]; omega
        have hsc : scan (T ++ [bc]) 1 = .err (k + 1) := by rw [hT0]; exact scan_laid HBM.out []
        have HSC : Hid (scan (str (T ++ [bc])).data.toList 1 = .err (k + 1)) := Lib.hid hsc
        have HSS : Hid ((str (T ++ [bc])).size ≤ 20000) := Lib.hid (by rw [str_size]; simp; omega)
        have HT2 : Hid (SignsAt (wr.alloc (.cells #[.int .u8 (bc.toNat : Int)] 5))) := Lib.hid (HT.out.bel (HB.out.alloc _ _))
        clear hT0 hsc HLD hlt
        go_wp2_with (go_at_call 18; ((with_reducible refine (scan_err HSC.out HSS.out _ HT2.out).mono ?_); rintro e w5 ⟨rfl, hb5⟩; have HB5 := Lib.hid ((HB.out.alloc _ _).trans hb5); clear hb5))
        go_ret
        exact ⟨rb (by simp), HB5.out⟩
      · have hki2 : ((k : Int) == (i : Int)) = false := by simp; omega
        obtain ⟨R, hR⟩ := HLD.out.2 (by omega)
        have hsc : scan T 1 = .err (k + 1) := by rw [hR]; exact scan_laid HBM.out R
        have HSC : Hid (scan (str T).data.toList 1 = .err (k + 1)) := Lib.hid hsc
        have HSS : Hid ((str T).size ≤ 20000) := Lib.hid (by rw [str_size]; omega)
        have HT2 : Hid (SignsAt wr) := Lib.hid (HT.out.bel HB.out)
        clear hR hsc HLD hlt
        go_wp2_with (go_at_call 18; ((with_reducible refine (scan_err HSC.out HSS.out _ HT2.out).mono ?_); rintro e w5 ⟨rfl, hb5⟩; have HB5 := Lib.hid (HB.out.trans hb5); clear hb5))
        go_ret
        exact ⟨rb (by simp), HB5.out⟩
end Go.Proofs.YtgameoiofikhmaaDoor
