/- readSymbols at any text. -/
import Derived.Test.YtbfmlbcjggplgaaGreatDoorIReadW
namespace Go.Proofs.YtbfmlbcjggplgaaGreatDoor
open Go.RowKit Go.Shelf Im
set_option linter.unusedVariables false
set_option linter.unusedSimpArgs false
attribute [local go_sem] Oper.semAt_some
theorem cut_sizes {s sep a b : Bs} {ok : Bool} (h : Lib.cut s sep = (a, b, ok)) : a.length ≤ s.length ∧ b.length ≤ s.length := by
  unfold Lib.cut at h
  split at h
  · injection h with h1 h2
    injection h2 with h2 h3
    subst h1 h2
    rw [List.length_take, List.length_drop]
    omega
  · injection h with h1 h2
    injection h2 with h2 h3
    subst h1 h2
    exact ⟨Nat.le_refl _, Nat.zero_le _⟩
theorem box_row {X : World} {B : Nat} {t : TypeId} {u : Value} {row : Option Nat} (hu : X.heap[B]? = some (.cells #[u] t (0, 0))) (hr : ∀ r, row = some r → ∃ o : Obj, X.heap[r]? = some o ∧ o.isCells = false) : some B ≠ row := by
  intro e
  obtain ⟨o, ho, hc⟩ := hr B e.symm
  rw [hu] at ho
  cases ho
  cases hc
theorem info_symp : (Tryz.prog.info? 42).map (fun i => (i.zero, i.size, i.bytes)) = some (some (.agg #[.string ⟨#[]⟩, .int .i64 0]), 2, 24) := by kernel_rfl
theorem clone_lit (s : ByteArray) (hs : s.size ≤ 1000000) (w : World) : Calls Tryz.prog 68 #[.string s] w fun e w' => e = .returned (.string s) ∧ Bel w w' := by
  go_enter Tryz.func68, Tryz.ntmps68
  go_wp2_with (go_at_call 89; refine (Tryz.stringslite_Clone s w (by omega)).mono ?_; rintro e w' ⟨rfl, hb⟩)
  go_ret
  exact ⟨rfl, hb⟩
theorem clone_in (s : ByteArray) (hs : s.size ≤ 1000000) (n : Nat) (w : World) : CallsIn Fence.wide n Tryz.prog 68 #[.string s] w fun e w' => e = .returned (.string s) ∧ Bel w w' := callsIn_wide.2 (clone_lit s hs w)
theorem cut_in {s A B : ByteArray} {a b : Bs} {ok : Bool} (h : Lib.cut s.data.toList [32] = (a, b, ok)) (hA : str a = A) (hB : str b = B) (hs : s.size ≤ 1000000) (n : Nat) (w : World) (hM : MaxAt w) :
    CallsIn Fence.wide n Tryz.prog 47 #[.string s, .string ⟨#[32]⟩] w fun e w' => e = .returned (.tuple #[.string A, .string B, .bool ok]) ∧ Bel w w' := callsIn_wide.2 (cut_lit (sep := ⟨#[32]⟩) h hA hB (by omega) w hM)
def symsOf (pre : List Txt) : List Sym := pre.map fun x => symV x.1.data.toList
def symCells (pre : List Txt) : List Value := (symsOf pre).flatMap scell
def rsF (t : ByteArray) (x : Txt) (w : World) (A N : ByteArray) (ok : Bool) (t17 t18 t19 t20 t21 t22 t23 t24 : Value) : Act := { tmps := #[.string t, undef, .slice none 0 0, .pointer (some ⟨w.heap.size, 0, none⟩), .string x.1, .string A, .string N, .bool ok, .string t, .func (.func 106) #[] #[.pointer (some ⟨w.heap.size + 1 + 1, 0, none⟩), .pointer (some ⟨w.heap.size + 1, 0, none⟩), .pointer (some ⟨w.heap.size + 1 + 1 + 1, 0, none⟩)], .string x.1, .tuple #[.string A, .string N, .bool ok], .string x.1, .tuple #[.string A, .string N, .bool ok], .string A, .string N, .bool ok, t17, t18, t19, t20, t21, t22, t23, t24, undef], defers := [] }
/-- what is kept in a round of readSymbols, whatever came first -/
structure RS (t : ByteArray) (x : Txt) (w : World) (A N : ByteArray) (ok : Bool) (W0 : World) (v : Value) (k : Nat) (xs : List Value) (m : Int) (l : Array Bool) (a : Act) (w' : World) : Prop where
  pre : l[7]? = some false → Bel W0 w'
  frame : ∃ t17 t18 t19 t20 t21 t22 t23 t24, a = rsF t x w A N ok t17 t18 t19 t20 t21 t22 t23 t24 ∧
    (l[0]? = some true → t17 = v) ∧ (l[1]? = some true → t18 = .string N) ∧ (l[2]? = some true → t19 = .string N) ∧ (l[3]? = some true → t20 = .string A) ∧ (l[4]? = some true → t21 = .int .i64 m) ∧ (l[5]? = some true → t22 = .agg #[.string N, .int .i64 m]) ∧
    (l[6]? = some true → l[7]? = some false → ∃ B, t23 = .slice (some ⟨B, 0, none⟩) 1 1 ∧ w'.heap[B]? = some (.cells #[.string N, .int .i64 m] 42 (0, 0))) ∧
    (l[7]? = some true → l[8]? = some false → More W0 (fun j => j = w.heap.size + 1 ∨ j = w.heap.size + 1 + 1 ∨ j = w.heap.size + 1 + 1 + 1) w.heap.size w.heap.size 23 42 2 k (xs ++ [.string N, .int .i64 m]) v t24 w')
  fin : l[8]? = some true → ∃ v' w2, w' = w2.setCell ⟨w.heap.size, 0, none⟩ v' ∧ More W0 (fun j => j = w.heap.size + 1 ∨ j = w.heap.size + 1 + 1 ∨ j = w.heap.size + 1 + 1 + 1) w.heap.size w.heap.size 23 42 2 k (xs ++ [.string N, .int .i64 m]) v v' w2
set_option maxRecDepth 100000 in
set_option maxHeartbeats 4000000 in
theorem readSymbols_in (n : Nat) (hn : 5 ≤ n) (t : ByteArray) (ht : t.size ≤ 1000000) (w : World) (hL : LibAt w) :
    CallsIn Fence.wide n Tryz.prog 50 #[.string t] w fun e w' => ∃ (v : Value) (pre : List Txt), e = .returned v ∧ pre.map (·.1) = (splitV 10 t.data.toList).map str ∧ w'.ownsRow w.heap.size 42 2 v pre.length (symCells pre) ∧ Below w.heap.size w w' := by
  have h1 : 1 ≤ n := by omega
  have h2 : 1 ≤ n - 1 - 1 := by omega
  obtain ⟨i0, hi, hz0, hz1, hz2⟩ := info_parts info_symp
  have HT := Lib.hid ht
  refine callsIn_of_wp_marks Tryz.func50 rfl trivial ?_ rfl
  simp only [Tryz.ntmps50, List.size_toArray, List.length_cons, List.length_nil, Nat.reduceAdd, Nat.reduceSub, Array.replicate_succ, Array.replicate_zero, List.push_toArray, List.append_toArray, List.nil_append, List.cons_append]
  gi_wp2_with (refine ⟨trivial, ?_⟩; gi_at_call 67; refine (SplitSeq_in (n - 1) (by omega) _ _ _).mono ?_; rintro e w' ⟨rfl, rfl⟩)
  have bO := Boxed.new w 23 (.slice none 0 0)
  obtain ⟨w1, hw1⟩ : ∃ w1, w.alloc (.cells #[.slice none 0 0] 23) = w1 := ⟨_, rfl⟩
  have hs1 : w1.heap.size = w.heap.size + 1 := by rw [← hw1]; simp
  rw [hw1] at bO ⊢
  have bN := Boxed.new w1 9 (.string t)
  have bP := Boxed.new (w1.alloc (.cells #[.string t] 9)) 9 (.string ⟨#[10]⟩)
  have bV := Boxed.new ((w1.alloc (.cells #[.string t] 9)).alloc (.cells #[.string ⟨#[10]⟩] 9)) 3 (.int .i64 0)
  have bO4 := ((bO.alloc (.cells #[.string t] 9)).alloc (.cells #[.string ⟨#[10]⟩] 9)).alloc (.cells #[.int .i64 0] 3)
  have bN4 := (bN.alloc (.cells #[.string ⟨#[10]⟩] 9)).alloc (.cells #[.int .i64 0] 3)
  have bP4 := bP.alloc (.cells #[.int .i64 0] 3)
  rw [World.size_alloc] at bP4
  rw [World.size_alloc, World.size_alloc] at bV
  have hB0 : Bel w (((w1.alloc (.cells #[.string t] 9)).alloc (.cells #[.string ⟨#[10]⟩] 9)).alloc (.cells #[.int .i64 0] 3)) := by
    rw [← hw1]
    exact ((((Bel.refl w).alloc _ _).alloc _ _).alloc _ _).alloc _ _
  have hsz : (((w1.alloc (.cells #[.string t] 9)).alloc (.cells #[.string ⟨#[10]⟩] 9)).alloc (.cells #[.int .i64 0] 3)).heap.size = w1.heap.size + 1 + 1 + 1 := by simp
  rw [hs1] at bN4 bP4 bV hsz
  refine range_all rfl h1 (gf := 106) (lb := #[.pointer (some ⟨w.heap.size + 1 + 1, 0, none⟩), .pointer (some ⟨w.heap.size + 1, 0, none⟩), .pointer (some ⟨w.heap.size + 1 + 1 + 1, 0, none⟩)]) rfl trivial (enters_of Tryz.func106 (by kernel_rfl) rfl)
    (split_all (n - 1) (by omega) t ht (w.heap.size + 1) w _ bN4 bP4 bV) hB0 (by rw [hsz]; omega) (fun k hk => by rw [hsz]; omega) (fun _ => rfl)
    (fun pre W => WI w w.heap.size (w.heap.size + 1) 23 42 2 symCells List.length pre W ∧ W.heap[w.heap.size + 1 + 1]? = some (.cells #[.string ⟨#[10]⟩] 9 (0, 0)) ∧ W.heap[w.heap.size + 1 + 1 + 1]? = some (.cells #[.int .i64 0] 3 (0, 0)))
    ?own ?set ?bel ⟨⟨⟨⟨_, bO4, World.ownsRow_nil _ _ _ _, trivial⟩, hB0⟩, _, bN4⟩, bP4, bV⟩
    (fun x => { tmps := #[.string t, undef, .slice none 0 0, .pointer (some ⟨w.heap.size, 0, none⟩), .string x.1, undef, undef, undef, .string t, .func (.func 106) #[] #[.pointer (some ⟨w.heap.size + 1 + 1, 0, none⟩), .pointer (some ⟨w.heap.size + 1, 0, none⟩), .pointer (some ⟨w.heap.size + 1 + 1 + 1, 0, none⟩)], .string x.1, undef, undef, undef, undef, undef, undef, undef, undef, undef, undef, undef, undef, undef, undef, undef], defers := [] }) ?assign ?body ?done
  case own => exact OwnFrom.and (WI.own w _ _ _ _ _ _ _ _ (by rw [hsz]; omega)) (Own.from (fun s A B row hs hg hr => ⟨Boxed.kept (t := 9) (v := .string ⟨#[10]⟩) hs.1 hg (box_row hs.1 hr), Boxed.kept (t := 3) (v := .int .i64 0) hs.2 hg (box_row hs.2 hr)⟩) _)
  case set => exact fun pre A v h => ⟨WI.set (by omega) (by omega) (by decide) pre A v h.1, by rw [heap_setCell_other _ _ _ _ (show w.heap.size + 1 + 1 ≠ w.heap.size + 1 by omega)]; exact h.2.1, by rw [heap_setCell_other _ _ _ _ (show w.heap.size + 1 + 1 + 1 ≠ w.heap.size + 1 by omega)]; exact h.2.2⟩
  case bel => exact fun pre A B h hb => ⟨WI.bel pre A B h.1 hb, hb.stays h.2.1, hb.stays h.2.2⟩
  case assign =>
    intro l x W K hK
    gi_wp2
    exact hK
  case body =>
    rintro l pre x W ⟨⟨⟨⟨v, hv, hrow, _⟩, hB⟩, u, hu⟩, hp, hq⟩ hlt
    obtain ⟨⟨a, b, ok⟩, hcut⟩ : ∃ p, Lib.cut x.1.data.toList [32] = p := ⟨_, rfl⟩
    obtain ⟨A, hA⟩ : ∃ A, str a = A := ⟨_, rfl⟩
    obtain ⟨N, hN⟩ : ∃ N, str b = N := ⟨_, rfl⟩
    have HA := Lib.hid hA
    have HNM := Lib.hid hN
    have HCUT := Lib.hid hcut
    have HX := Lib.hid x.2
    have HLB := Lib.hid (hL.bel hB)
    have HB := Lib.hid hB
    have HV := Lib.hid hv
    have HROW := Lib.hid hrow
    clear hA hN hcut hB hv hrow
    gi_wp2_with (refine ⟨trivial, ?_⟩; gi_at_call 47; refine (CallsIn.inRound _ (cut_in HCUT.out HA.out HNM.out HX.out _ _ HLB.out.2.2)).mono ?_; rintro e w2 ⟨rfl, hb2⟩)
    obtain ⟨m, hm⟩ : ∃ m, numV A.data.toList = m := ⟨_, rfl⟩
    have HM := Lib.hid hm
    have hcs := cut_sizes HCUT.out
    rw [size_list] at hcs
    have HAZ : Hid (A.size ≤ 1000000) := Lib.hid (by rw [← HA.out, str_size]; have := HX.out; omega)
    have HNZ : Hid (N.size ≤ 1000000) := Lib.hid (by rw [← HNM.out, str_size]; have := HX.out; omega)
    have hWd : Bel W w2.drew := hb2.drew
    obtain ⟨W0, hW0⟩ : ∃ W0, w2.drew = W0 := ⟨_, rfl⟩
    rw [hW0] at hWd
    have hvW := boxed_bel HV.out hWd
    have hrW : W0.ownsRow w.heap.size 42 2 v pre.length (symCells pre) := ownsRow_sv HROW.out (hWd.sv fun _ => False) (fun _ _ c => c)
    have HEW := Lib.hid (HLB.out.bel hWd).1
    have HW0 : Hid (w.heap.size ≤ W0.heap.size) := Lib.hid (Nat.le_trans HB.out.size hWd.size)
    have hu0 := boxed_bel hu hWd
    have hp0 := hWd.stays hp
    have hq0 := hWd.stays hq
    have HZ : Hid (∀ j, (j = w.heap.size + 1 ∨ j = w.heap.size + 1 + 1 ∨ j = w.heap.size + 1 + 1 + 1) → j ≠ w.heap.size ∧ ∃ tz u, Boxed W0 j tz u ∧ tz ≠ 42) := Lib.hid (by
      rintro j (rfl | rfl | rfl)
      · exact ⟨by omega, _, _, hu0, by decide⟩
      · exact ⟨by omega, _, _, hp0, by decide⟩
      · exact ⟨by omega, _, _, hq0, by decide⟩)
    have HE3 : Hid (symV x.1.data.toList = ⟨N, m⟩) := Lib.hid (by unfold symV; rw [HCUT.out]; show (⟨str b, numV a⟩ : Sym) = _; rw [HNM.out, ← HM.out, ← HA.out, str_list])
    have HZL : Hid (∀ j, (j = w.heap.size + 1 ∨ j = w.heap.size + 1 + 1 ∨ j = w.heap.size + 1 + 1 + 1) → j < W.heap.size) := Lib.hid (by
      rintro j (rfl | rfl | rfl)
      · exact lt_of_heap hu
      · exact lt_of_heap hp
      · exact lt_of_heap hq)
    have mixed : Tryz.prog.follows .mixedOrders = true := by kernel_rfl
    refine region_inv mixed (by kernel_rfl) (RS t x w A N ok W0 v pre.length (symCells pre) m) ?step ?fin ?start
    case start =>
      rw [hW0]
      refine ⟨fun _ => Bel.refl _, ⟨_, _, _, _, _, _, _, _, rfl, fun h => ?_, fun h => ?_, fun h => ?_, fun h => ?_, fun h => ?_, fun h => ?_, fun h => ?_, fun h => ?_⟩, fun h => ?_⟩ <;> simp at h
    case fin =>
      intro l a w' hall hI
      obtain ⟨v', w2, rfl, hM⟩ := hI.fin (hall 8 (by decide))
      have hBd := Below.trans (hWd.mono (Nat.le_trans HB.out.size (Nat.le_refl _))) hM.below
      refine ⟨((others_bel hWd).trans hM.others).from _, hBd, fun j hj => (hM.kept j hj).trans (hWd.block j (HZL.out j hj)), ⟨⟨⟨v', hM.boxed, ?_, trivial⟩, Below.trans HB.out hBd⟩, u, (hM.kept _ (.inl rfl)).trans hu0⟩, (hM.kept _ (.inr (.inl rfl))).trans hp0, (hM.kept _ (.inr (.inr rfl))).trans hq0⟩
      have hrr := hM.row
      have e1 : (pre ++ [x]).length = pre.length + 1 := by simp
      have e3 := HE3.out
      have e2 : symCells (pre ++ [x]) = symCells pre ++ [.string N, .int .i64 m] := by unfold symCells symsOf; rw [List.map_append, List.flatMap_append, List.map_cons, e3]; rfl
      rw [e1, e2]
      exact hrr
    case step =>
      intro l a w' i o hl hcl hI ho hf hd K hK
      have hi9 : i < 9 := (Array.getElem?_eq_some_iff.1 ho).1
      obtain rfl | rfl | rfl | rfl | rfl | rfl | rfl | rfl | rfl : i = 0 ∨ i = 1 ∨ i = 2 ∨ i = 3 ∨ i = 4 ∨ i = 5 ∨ i = 6 ∨ i = 7 ∨ i = 8 := by omega
      · obtain rfl := Option.some.inj ho
        have n7 : l[7]? = some false := not_yet (by rw [hl]; decide) (fun c => ne_tf hf (hcl 7 _ rfl c ⟨0, .data⟩ (by simp)))
        have n8 : l[8]? = some false := not_yet (by rw [hl]; decide) (fun c => ne_tf n7 (hcl 8 _ rfl c ⟨7, .data⟩ (by simp)))
        have hb := hI.pre n7
        obtain ⟨t17, t18, t19, t20, t21, t22, t23, t24, rfl, f0, f1, f2, f3, f4, f5, f6, f7⟩ := hI.frame
        simp only [List.getElem_toArray, List.getElem_cons_succ, List.getElem_cons_zero] at hd ⊢
        clear ho
        have hc : w'.cell? ⟨w.heap.size, 0, none⟩ = some v := (boxed_bel hvW hb).cell
        refine ⟨by rfl, ?_⟩
        unfold rsF
        go_simp
        exact hK _ _ ⟨fun _ => hb, ⟨v, t18, t19, t20, t21, t22, t23, t24, rfl, fun _ => rfl, fun h => f1 (by rwa [set_ne (by decide)] at h), fun h => f2 (by rwa [set_ne (by decide)] at h), fun h => f3 (by rwa [set_ne (by decide)] at h), fun h => f4 (by rwa [set_ne (by decide)] at h), fun h => f5 (by rwa [set_ne (by decide)] at h), fun h _ => f6 (by rwa [set_ne (by decide)] at h) n7, fun h => (ne_tf n7 (by rwa [set_ne (by decide)] at h)).elim⟩, fun h => (ne_tf n8 (by rwa [set_ne (by decide)] at h)).elim⟩
      · obtain rfl := Option.some.inj ho
        have n7 : l[7]? = some false := not_yet (by rw [hl]; decide) (fun c => ne_tf hf (hcl 2 _ rfl (hcl 5 _ rfl (hcl 6 _ rfl (hcl 7 _ rfl c ⟨6, .data⟩ (by simp)) ⟨5, .data⟩ (by simp)) ⟨2, .data⟩ (by simp)) ⟨1, .data⟩ (by simp)))
        have n8 : l[8]? = some false := not_yet (by rw [hl]; decide) (fun c => ne_tf n7 (hcl 8 _ rfl c ⟨7, .data⟩ (by simp)))
        have hb := hI.pre n7
        obtain ⟨t17, t18, t19, t20, t21, t22, t23, t24, rfl, f0, f1, f2, f3, f4, f5, f6, f7⟩ := hI.frame
        simp only [List.getElem_toArray, List.getElem_cons_succ, List.getElem_cons_zero] at hd ⊢
        clear ho
        refine ⟨by rfl, ?_⟩
        unfold rsF
        go_simp
        exact hK _ _ ⟨fun _ => hb, ⟨t17, .string N, t19, t20, t21, t22, t23, t24, rfl, fun h => f0 (by rwa [set_ne (by decide)] at h), fun _ => rfl, fun h => f2 (by rwa [set_ne (by decide)] at h), fun h => f3 (by rwa [set_ne (by decide)] at h), fun h => f4 (by rwa [set_ne (by decide)] at h), fun h => f5 (by rwa [set_ne (by decide)] at h), fun h _ => f6 (by rwa [set_ne (by decide)] at h) n7, fun h => (ne_tf n7 (by rwa [set_ne (by decide)] at h)).elim⟩, fun h => (ne_tf n8 (by rwa [set_ne (by decide)] at h)).elim⟩
      · obtain rfl := Option.some.inj ho
        have n7 : l[7]? = some false := not_yet (by rw [hl]; decide) (fun c => ne_tf hf (hcl 5 _ rfl (hcl 6 _ rfl (hcl 7 _ rfl c ⟨6, .data⟩ (by simp)) ⟨5, .data⟩ (by simp)) ⟨2, .data⟩ (by simp)))
        have n8 : l[8]? = some false := not_yet (by rw [hl]; decide) (fun c => ne_tf n7 (hcl 8 _ rfl c ⟨7, .data⟩ (by simp)))
        have hb := hI.pre n7
        obtain ⟨t17, t18, t19, t20, t21, t22, t23, t24, rfl, f0, f1, f2, f3, f4, f5, f6, f7⟩ := hI.frame
        simp only [List.getElem_toArray, List.getElem_cons_succ, List.getElem_cons_zero] at hd ⊢
        clear ho
        obtain rfl := f1 (hd ⟨1, .data⟩ (by simp))
        refine ⟨by rfl, ?_⟩
        unfold rsF
        go_simp
        refine ⟨trivial, ?_⟩
        gi_at_call 68
        refine (CallsIn.inRound _ (clone_in N HNZ.out _ _)).mono ?_
        rintro e w3 ⟨rfl, hb1⟩
        exact hK _ _ ⟨fun _ => hb.trans hb1, ⟨t17, .string N, .string N, t20, t21, t22, t23, t24, rfl, fun h => f0 (by rwa [set_ne (by decide)] at h), fun h => f1 (by rwa [set_ne (by decide)] at h), fun _ => rfl, fun h => f3 (by rwa [set_ne (by decide)] at h), fun h => f4 (by rwa [set_ne (by decide)] at h), fun h => f5 (by rwa [set_ne (by decide)] at h), fun h => (ne_tf (not_yet (by rw [hl]; decide) (fun c => ne_tf hf (hcl 5 _ rfl (hcl 6 _ rfl c ⟨5, .data⟩ (by simp)) ⟨2, .data⟩ (by simp)))) (by rwa [set_ne (by decide)] at h)).elim, fun h => (ne_tf n7 (by rwa [set_ne (by decide)] at h)).elim⟩, fun h => (ne_tf n8 (by rwa [set_ne (by decide)] at h)).elim⟩
      · obtain rfl := Option.some.inj ho
        have n7 : l[7]? = some false := not_yet (by rw [hl]; decide) (fun c => ne_tf hf (hcl 4 _ rfl (hcl 5 _ rfl (hcl 6 _ rfl (hcl 7 _ rfl c ⟨6, .data⟩ (by simp)) ⟨5, .data⟩ (by simp)) ⟨4, .data⟩ (by simp)) ⟨3, .data⟩ (by simp)))
        have n8 : l[8]? = some false := not_yet (by rw [hl]; decide) (fun c => ne_tf n7 (hcl 8 _ rfl c ⟨7, .data⟩ (by simp)))
        have hb := hI.pre n7
        obtain ⟨t17, t18, t19, t20, t21, t22, t23, t24, rfl, f0, f1, f2, f3, f4, f5, f6, f7⟩ := hI.frame
        simp only [List.getElem_toArray, List.getElem_cons_succ, List.getElem_cons_zero] at hd ⊢
        clear ho
        refine ⟨by rfl, ?_⟩
        unfold rsF
        go_simp
        exact hK _ _ ⟨fun _ => hb, ⟨t17, t18, t19, .string A, t21, t22, t23, t24, rfl, fun h => f0 (by rwa [set_ne (by decide)] at h), fun h => f1 (by rwa [set_ne (by decide)] at h), fun h => f2 (by rwa [set_ne (by decide)] at h), fun _ => rfl, fun h => f4 (by rwa [set_ne (by decide)] at h), fun h => f5 (by rwa [set_ne (by decide)] at h), fun h _ => f6 (by rwa [set_ne (by decide)] at h) n7, fun h => (ne_tf n7 (by rwa [set_ne (by decide)] at h)).elim⟩, fun h => (ne_tf n8 (by rwa [set_ne (by decide)] at h)).elim⟩
      · obtain rfl := Option.some.inj ho
        have n7 : l[7]? = some false := not_yet (by rw [hl]; decide) (fun c => ne_tf hf (hcl 5 _ rfl (hcl 6 _ rfl (hcl 7 _ rfl c ⟨6, .data⟩ (by simp)) ⟨5, .data⟩ (by simp)) ⟨4, .data⟩ (by simp)))
        have n8 : l[8]? = some false := not_yet (by rw [hl]; decide) (fun c => ne_tf n7 (hcl 8 _ rfl c ⟨7, .data⟩ (by simp)))
        have hb := hI.pre n7
        obtain ⟨t17, t18, t19, t20, t21, t22, t23, t24, rfl, f0, f1, f2, f3, f4, f5, f6, f7⟩ := hI.frame
        simp only [List.getElem_toArray, List.getElem_cons_succ, List.getElem_cons_zero] at hd ⊢
        clear ho
        obtain rfl := f3 (hd ⟨3, .data⟩ (by simp))
        refine ⟨by rfl, ?_⟩
        unfold rsF
        go_simp
        refine ⟨trivial, ?_⟩
        gi_at_call 44
        refine (CallsIn.inRound _ (number_in HM.out HAZ.out _ _ (HEW.out.bel hb))).mono ?_
        rintro e w3 ⟨rfl, hb1⟩
        exact hK _ _ ⟨fun _ => hb.trans hb1, ⟨t17, t18, t19, .string A, .int .i64 m, t22, t23, t24, rfl, fun h => f0 (by rwa [set_ne (by decide)] at h), fun h => f1 (by rwa [set_ne (by decide)] at h), fun h => f2 (by rwa [set_ne (by decide)] at h), fun h => f3 (by rwa [set_ne (by decide)] at h), fun _ => rfl, fun h => f5 (by rwa [set_ne (by decide)] at h), fun h => (ne_tf (not_yet (by rw [hl]; decide) (fun c => ne_tf hf (hcl 5 _ rfl (hcl 6 _ rfl c ⟨5, .data⟩ (by simp)) ⟨4, .data⟩ (by simp)))) (by rwa [set_ne (by decide)] at h)).elim, fun h => (ne_tf n7 (by rwa [set_ne (by decide)] at h)).elim⟩, fun h => (ne_tf n8 (by rwa [set_ne (by decide)] at h)).elim⟩
      · obtain rfl := Option.some.inj ho
        have n7 : l[7]? = some false := not_yet (by rw [hl]; decide) (fun c => ne_tf hf (hcl 6 _ rfl (hcl 7 _ rfl c ⟨6, .data⟩ (by simp)) ⟨5, .data⟩ (by simp)))
        have n8 : l[8]? = some false := not_yet (by rw [hl]; decide) (fun c => ne_tf n7 (hcl 8 _ rfl c ⟨7, .data⟩ (by simp)))
        have hb := hI.pre n7
        obtain ⟨t17, t18, t19, t20, t21, t22, t23, t24, rfl, f0, f1, f2, f3, f4, f5, f6, f7⟩ := hI.frame
        simp only [List.getElem_toArray, List.getElem_cons_succ, List.getElem_cons_zero] at hd ⊢
        clear ho
        obtain rfl := f2 (hd ⟨2, .data⟩ (by simp))
        obtain rfl := f4 (hd ⟨4, .data⟩ (by simp))
        refine ⟨by rfl, ?_⟩
        unfold rsF
        go_simp
        exact hK _ _ ⟨fun _ => hb, ⟨t17, t18, .string N, t20, .int .i64 m, .agg #[.string N, .int .i64 m], t23, t24, rfl, fun h => f0 (by rwa [set_ne (by decide)] at h), fun h => f1 (by rwa [set_ne (by decide)] at h), fun h => f2 (by rwa [set_ne (by decide)] at h), fun h => f3 (by rwa [set_ne (by decide)] at h), fun h => f4 (by rwa [set_ne (by decide)] at h), fun _ => rfl, fun h _ => f6 (by rwa [set_ne (by decide)] at h) n7, fun h => (ne_tf n7 (by rwa [set_ne (by decide)] at h)).elim⟩, fun h => (ne_tf n8 (by rwa [set_ne (by decide)] at h)).elim⟩
      · obtain rfl := Option.some.inj ho
        have n7 : l[7]? = some false := not_yet (by rw [hl]; decide) (fun c => ne_tf hf (hcl 7 _ rfl c ⟨6, .data⟩ (by simp)))
        have n8 : l[8]? = some false := not_yet (by rw [hl]; decide) (fun c => ne_tf n7 (hcl 8 _ rfl c ⟨7, .data⟩ (by simp)))
        have hb := hI.pre n7
        obtain ⟨t17, t18, t19, t20, t21, t22, t23, t24, rfl, f0, f1, f2, f3, f4, f5, f6, f7⟩ := hI.frame
        simp only [List.getElem_toArray, List.getElem_cons_succ, List.getElem_cons_zero] at hd ⊢
        clear ho
        obtain rfl := f5 (hd ⟨5, .data⟩ (by simp))
        refine ⟨by rfl, ?_⟩
        unfold rsF
        go_simp
        exact hK _ _ ⟨fun _ => hb.alloc _ _, ⟨t17, t18, t19, t20, t21, .agg #[.string N, .int .i64 m], .slice (some ⟨w'.heap.size, 0, none⟩) 1 1, t24, rfl, fun h => f0 (by rwa [set_ne (by decide)] at h), fun h => f1 (by rwa [set_ne (by decide)] at h), fun h => f2 (by rwa [set_ne (by decide)] at h), fun h => f3 (by rwa [set_ne (by decide)] at h), fun h => f4 (by rwa [set_ne (by decide)] at h), fun h => f5 (by rwa [set_ne (by decide)] at h), fun _ _ => ⟨_, rfl, heap_alloc_new w' _⟩, fun h => (ne_tf n7 (by rwa [set_ne (by decide)] at h)).elim⟩, fun h => (ne_tf n8 (by rwa [set_ne (by decide)] at h)).elim⟩
      · obtain rfl := Option.some.inj ho
        have n8 : l[8]? = some false := not_yet (by rw [hl]; decide) (fun c => ne_tf hf (hcl 8 _ rfl c ⟨7, .data⟩ (by simp)))
        have hb := hI.pre hf
        obtain ⟨t17, t18, t19, t20, t21, t22, t23, t24, rfl, f0, f1, f2, f3, f4, f5, f6, f7⟩ := hI.frame
        simp only [List.getElem_toArray, List.getElem_cons_succ, List.getElem_cons_zero] at hd ⊢
        clear ho
        obtain rfl := f0 (hd ⟨0, .data⟩ (by simp))
        obtain ⟨B, rfl, hBn⟩ := f6 (hd ⟨6, .data⟩ (by simp)) hf
        obtain ⟨v', w3, hrun, hM⟩ := collect (P := Tryz.prog) (Z := fun j => j = w.heap.size + 1 ∨ j = w.heap.size + 1 + 1 ∨ j = w.heap.size + 1 + 1 + 1) Tryz.underlying23 hi hz0 hz1 hz2 rfl (by decide) hvW hrW hb HW0.out (Nat.le_refl _) (by decide) B (by rfl) hBn (by simp [Value.oneCell']) (by have := HT.out; omega) (by decide) HZ.out
        refine ⟨by rfl, ?_⟩
        refine wpIn_app (.tmp 17) (.tmp 23) 23 rfl _ _ _ rfl rfl hrun rfl ?_
        exact hK _ _ ⟨fun h => (ne_tf h (set_eq hf)).elim, ⟨t17, t18, t19, t20, t21, t22, .slice (some ⟨B, 0, none⟩) 1 1, v', rfl, fun _ => rfl, fun h => f1 (by rwa [set_ne (by decide)] at h), fun h => f2 (by rwa [set_ne (by decide)] at h), fun h => f3 (by rwa [set_ne (by decide)] at h), fun h => f4 (by rwa [set_ne (by decide)] at h), fun h => f5 (by rwa [set_ne (by decide)] at h), fun _ h => (ne_tf h (set_eq hf)).elim, fun _ _ => hM⟩, fun h => (ne_tf n8 (by rwa [set_ne (by decide)] at h)).elim⟩
      · obtain rfl := Option.some.inj ho
        obtain ⟨t17, t18, t19, t20, t21, t22, t23, t24, rfl, f0, f1, f2, f3, f4, f5, f6, f7⟩ := hI.frame
        simp only [List.getElem_toArray, List.getElem_cons_succ, List.getElem_cons_zero] at hd ⊢
        clear ho
        have n7 := hd ⟨7, .data⟩ (by simp)
        have hM := f7 n7 hf
        have hc := hM.cell
        have hfz := hM.frozen
        obtain ⟨g, c, rfl⟩ := hM.form
        refine ⟨by rfl, ?_⟩
        unfold rsF
        go_simp
        exact hK _ _ ⟨fun h => (ne_tf h (set_true n7)).elim, ⟨t17, t18, t19, t20, t21, t22, t23, _, rfl, fun h => f0 (by rwa [set_ne (by decide)] at h), fun h => f1 (by rwa [set_ne (by decide)] at h), fun h => f2 (by rwa [set_ne (by decide)] at h), fun h => f3 (by rwa [set_ne (by decide)] at h), fun h => f4 (by rwa [set_ne (by decide)] at h), fun h => f5 (by rwa [set_ne (by decide)] at h), fun _ h => (ne_tf h (set_true n7)).elim, fun _ h => (ne_tf h (set_eq hf)).elim⟩, fun _ => ⟨_, w', rfl, hM⟩⟩
  case done =>
    rintro D ys W hD hS ⟨⟨⟨⟨v, hv, hrow, _⟩, hB⟩, u, hu⟩, _⟩ hK
    have hc := hv.cell
    gi_wp2
    refine ⟨by simp, .inl ⟨_, _, rfl, run_takeDeferred hK, ?_⟩⟩
    exact ⟨_, results_tmp rfl _ _ _, v, ys, rfl, hS, ownsRow_putObj hrow _ hK rfl, hB.trans (belowK_b (w := w) (Nat.le_refl _) W D _ _ (by rw [hsz] at hD; omega) hK rfl rfl)⟩
theorem syms_at {w : World} {base : Nat} {v : Value} {L : List Sym} {n : Nat} (h : w.ownsRow base 42 2 v n (L.flatMap scell)) : ∃ p c, v = .slice p L.length c ∧ EncAt scell 2 w p L ∧ ∀ q, p = some q → base ≤ q.block ∧ q.block < w.heap.size := by
  have hn : n = L.length := by have := h.1; rw [flat_len (k := 2) (fun _ => rfl)] at this; omega
  subst hn
  obtain ⟨p, c, e1, e2, e3⟩ := ERow.form (enc := scell) (k := 2) (fun _ => rfl) (show ERow scell 42 2 w base v L from h)
  exact ⟨p, c, e1, e2, e3⟩
/-- readSymbols at any text -/
theorem readSymbols_any (t : ByteArray) (ht : t.size ≤ 1000000) (w : World) (hL : LibAt w) :
    Calls Tryz.prog 50 #[.string t] w fun e w' => ∃ p c L, e = .returned (.slice p L.length c) ∧ EncAt scell 2 w' p L ∧ (∀ q, p = some q → w.heap.size ≤ q.block ∧ q.block < w'.heap.size) ∧ (∀ x ∈ L, x.name.size ≤ 1000000 ∧ 0 ≤ x.place ∧ x.place ≤ 4294967295) ∧ L.length ≤ 1000001 ∧ L = (splitV 10 t.data.toList).map symV ∧ Bel w w' := by
  refine ((callsIn_wide (n := 5)).1 (readSymbols_in 5 (by omega) t ht w hL)).mono ?_
  rintro e w' ⟨v, pre, rfl, h1, h2, hb⟩
  obtain ⟨p, c, rfl, e1, e2⟩ := syms_at h2
  have hls : symsOf pre = (splitV 10 t.data.toList).map symV := by
    have h3 : pre.map (fun x => x.1.data.toList) = splitV 10 t.data.toList := by
      have := congrArg (List.map fun s : ByteArray => s.data.toList) h1
      rw [List.map_map, List.map_map] at this
      rw [show (fun x : Txt => x.1.data.toList) = ((fun s : ByteArray => s.data.toList) ∘ fun x : Txt => x.1) from rfl, this]
      conv => rhs; rw [← List.map_id (splitV 10 t.data.toList)]
      exact List.map_congr_left fun y _ => str_list y
    unfold symsOf
    rw [← h3, List.map_map]
    rfl
  refine ⟨p, c, symsOf pre, rfl, e1, e2, fun x hx => ?_, ?_, hls, hb⟩
  · obtain ⟨y, _, rfl⟩ := List.mem_map.1 hx
    have hb2 := numV_bounds (Lib.cut y.1.data.toList [32]).1
    have hcs := cut_sizes (s := y.1.data.toList) (sep := [32]) (a := (Lib.cut y.1.data.toList [32]).1) (b := (Lib.cut y.1.data.toList [32]).2.1) (ok := (Lib.cut y.1.data.toList [32]).2.2) rfl
    have := y.2
    rw [size_list] at hcs
    refine ⟨?_, hb2.1, hb2.2⟩
    show (str _).size ≤ _
    rw [str_size]
    omega
  · rw [hls, List.length_map]
    have := splitV_len 10 t.data.toList
    rw [size_list] at this
    omega
end Go.Proofs.YtbfmlbcjggplgaaGreatDoor
