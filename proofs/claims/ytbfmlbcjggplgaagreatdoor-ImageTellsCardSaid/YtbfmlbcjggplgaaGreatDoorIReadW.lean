/- readWords at any text. -/
import Derived.Maps.AppendAt
import Derived.Test.YtbfmlbcjggplgaaGreatDoorISeq0
import Derived.Test.YtbfmlbcjggplgaaGreatDoorIFields
import Derived.Test.YtbfmlbcjggplgaaGreatDoorIRead0
import Derived.Test.YtbfmlbcjggplgaaGreatDoorICollect
namespace Go.Proofs.YtbfmlbcjggplgaaGreatDoor
open Go.RowKit Go.Shelf Im
set_option linter.unusedVariables false
set_option linter.unusedSimpArgs false
attribute [local go_sem] Oper.semAt_some
theorem own_box {β : Type} (B : Nat) (t : TypeId) : Own (fun (_ : β) W => ∃ u, Boxed W B t u) := by
  rintro s X Y row ⟨u, hu⟩ hg hr
  refine ⟨u, hu.kept hg (fun e => ?_)⟩
  obtain ⟨o, ho, hc⟩ := hr B e.symm
  rw [show X.heap[B]? = _ from hu] at ho
  cases ho
  cases hc
theorem boxed_bel {A B : World} {b : Nat} {t : TypeId} {v : Value} (h : Boxed A b t v) (hb : Bel A B) : Boxed B b t v := hb.stays h
theorem boxed_other {A : World} {b b' : Nat} {t : TypeId} {v u : Value} (h : Boxed A b t v) (hne : b ≠ b') : Boxed (A.setCell ⟨b', 0, none⟩ u) b t v := by
  show (A.setCell _ u).heap[b]? = _
  rw [heap_setCell_other _ _ _ _ hne]
  exact h
theorem row_other {A : World} {base n : Nat} {e t : TypeId} {k : Nat} {v u0 u : Value} {xs : List Value} {b : Nat} (h : A.ownsRow base e k v n xs) (hb : Boxed A b t u0) (hte : t ≠ e) : (A.setCell ⟨b, 0, none⟩ u).ownsRow base e k v n xs :=
  h.kept (grownBy_setCell' A b u) (.inr (hb.not_row hte h).symm)
theorem info_intp : (Tryz.prog.info? 3).map (fun i => (i.zero, i.size, i.bytes)) = some (some (.int .i64 0), 1, 8) := by kernel_rfl
def wordsOf (pre : List Txt) : List Int := pre.map fun x => numV x.1.data.toList
theorem number_in {t : ByteArray} {n : Int} (h : numV t.data.toList = n) (hmax : t.size ≤ 1000000) (m : Nat) (w : World) (hE : ErrsAt w) :
    CallsIn Fence.wide m Tryz.prog 44 #[.string t] w fun e w' => e = .returned (.int .i64 n) ∧ Bel w w' := callsIn_wide.2 (number_lit h (by omega) w hE)
/-- what stands between two rounds -/
def WI (w : World) (Bo Bs : Nat) (ta e : TypeId) (k : Nat) (f : List Txt → List Value) (cnt : List Txt → Nat) (pre : List Txt) (W : World) : Prop :=
  ((∃ v, Boxed W Bo ta v ∧ W.ownsRow w.heap.size e k v (cnt pre) (f pre) ∧ True) ∧ Below w.heap.size w W) ∧ ∃ u, Boxed W Bs 9 u
theorem WI.own (w : World) (Bo Bs : Nat) (ta e : TypeId) (k : Nat) (f : List Txt → List Value) (cnt : List Txt → Nat) (B : Nat) (hB : w.heap.size ≤ B) : OwnFrom B (WI w Bo Bs ta e k f cnt) :=
  OwnFrom.and (OwnFrom.and (Own.from (holdsRow_own w.heap.size Bo ta e k cnt f (fun _ _ => True)) _) (ownFrom_below (Nat.le_refl _) hB)) (Own.from (own_box Bs 9) _)
theorem WI.set {w : World} {Bo Bs : Nat} {ta e : TypeId} {k : Nat} {f : List Txt → List Value} {cnt : List Txt → Nat} (hw : w.heap.size ≤ Bs) (hne : Bo ≠ Bs) (he : 9 ≠ e) (pre : List Txt) (A : World) (v : Value) (h : WI w Bo Bs ta e k f cnt pre A) : WI w Bo Bs ta e k f cnt pre (A.setCell ⟨Bs, 0, none⟩ v) := by
  obtain ⟨⟨⟨x, h1, h2, _⟩, h3⟩, u, h4⟩ := h
  exact ⟨⟨⟨x, boxed_other h1 hne, row_other h2 h4 he, trivial⟩, h3.setCell (p := ⟨Bs, 0, none⟩) hw v⟩, v, h4.set v⟩
theorem WI.bel {w : World} {Bo Bs : Nat} {ta e : TypeId} {k : Nat} {f : List Txt → List Value} {cnt : List Txt → Nat} (pre : List Txt) (A B : World) (h : WI w Bo Bs ta e k f cnt pre A) (hb : Bel A B) : WI w Bo Bs ta e k f cnt pre B := by
  obtain ⟨⟨⟨x, h1, h2, _⟩, h3⟩, u, h4⟩ := h
  exact ⟨⟨⟨x, boxed_bel h1 hb, ownsRow_sv h2 (hb.sv fun _ => False) (fun _ _ c => c), trivial⟩, Bel.trans h3 hb⟩, u, boxed_bel h4 hb⟩
def intCells (pre : List Txt) : List Value := (wordsOf pre).map (Value.int .i64)
def rwF (t : ByteArray) (x : Txt) (w : World) (t8 t9 t10 t11 t12 : Value) : Act := { tmps := #[.string t, undef, .slice none 0 0, .pointer (some ⟨w.heap.size, 0, none⟩), .string x.1, .string t, .func (.func 80) #[] #[.pointer (some ⟨w.heap.size + 1, 0, none⟩)], .string x.1, t8, t9, t10, t11, t12, undef], defers := [] }
/-- what is kept in a round of readWords, whatever came first -/
structure RW (t : ByteArray) (x : Txt) (w W : World) (v : Value) (k : Nat) (xs : List Value) (m : Int) (l : Array Bool) (a : Act) (w' : World) : Prop where
  pre : l[4]? = some false → Bel W w'
  frame : ∃ t8 t9 t10 t11 t12, a = rwF t x w t8 t9 t10 t11 t12 ∧
    (l[0]? = some true → t8 = v) ∧ (l[1]? = some true → t9 = .string x.1) ∧ (l[2]? = some true → t10 = .int .i64 m) ∧
    (l[3]? = some true → l[4]? = some false → ∃ B, t11 = .slice (some ⟨B, 0, none⟩) 1 1 ∧ w'.heap[B]? = some (.cells #[.int .i64 m] 3 (0, 0))) ∧
    (l[4]? = some true → l[5]? = some false → More W (fun j => j = w.heap.size + 1) w.heap.size w.heap.size 22 3 1 k (xs ++ [.int .i64 m]) v t12 w')
  fin : l[5]? = some true → ∃ v' w2, w' = w2.setCell ⟨w.heap.size, 0, none⟩ v' ∧ More W (fun j => j = w.heap.size + 1) w.heap.size w.heap.size 22 3 1 k (xs ++ [.int .i64 m]) v v' w2
theorem ne_tf {l : Array Bool} {j : Nat} (h : l[j]? = some false) (c : l[j]? = some true) : False := by rw [h] at c; cases c
set_option maxRecDepth 100000 in
set_option maxHeartbeats 4000000 in
theorem readWords_in (n : Nat) (hn : 5 ≤ n) (t : ByteArray) (ht : t.size ≤ 1000000) (w : World) (hL : LibAt w) (hS : SpAt w) :
    CallsIn Fence.wide n Tryz.prog 48 #[.string t] w fun e w' => ∃ (v : Value) (pre : List Txt), e = .returned v ∧ (asc t.data.toList → pre.map (fun x => x.1.data.toList) = fieldsG [] t.data.toList) ∧ w'.ownsRow w.heap.size 3 1 v pre.length (intCells pre) ∧ pre.length ≤ t.size + 1 ∧ Below w.heap.size w w' := by
  have h1 : 1 ≤ n := by omega
  have h2 : 1 ≤ n - 1 - 1 := by omega
  obtain ⟨i0, hi, hz0, hz1, hz2⟩ := info_parts info_intp
  have HT := Lib.hid ht
  refine callsIn_of_wp_marks Tryz.func48 rfl trivial ?_ rfl
  simp only [Tryz.ntmps48, List.size_toArray, List.length_cons, List.length_nil, Nat.reduceAdd, Nat.reduceSub, Array.replicate_succ, Array.replicate_zero, List.push_toArray, List.append_toArray, List.nil_append, List.cons_append]
  gi_wp2_with (refine ⟨trivial, ?_⟩; gi_at_call 64; refine (fieldsSeq_in Fence.wide (n - 1) trivial rfl _ _).mono ?_; rintro e w' ⟨rfl, rfl⟩)
  have bO := Boxed.new w 22 (.slice none 0 0)
  have bN := Boxed.new (w.alloc (.cells #[.slice none 0 0] 22)) 9 (.string t)
  have hB0 : Bel w ((w.alloc (.cells #[.slice none 0 0] 22)).alloc (.cells #[.string t] 9)) := ((Bel.refl w).alloc _ _).alloc _ _
  have hsz : ((w.alloc (.cells #[.slice none 0 0] 22)).alloc (.cells #[.string t] 9)).heap.size = w.heap.size + 1 + 1 := by simp
  have hO2 := bO.alloc (.cells #[.string t] 9)
  rw [World.size_alloc] at bN
  refine range_all rfl h1 (gf := 80) (lb := #[.pointer (some ⟨w.heap.size + 1, 0, none⟩)]) rfl trivial (enters_of Tryz.func80 (by kernel_rfl) rfl)
    (fields_all (n - 1) (by omega) t ht (w.heap.size + 1) w _ hB0 hS bN) hB0 (by rw [hsz]; omega) (fun k hk => by rw [hsz]; omega) (fun _ => rfl)
    (WI w w.heap.size (w.heap.size + 1) 22 3 1 intCells List.length) (WI.own w _ _ _ _ _ _ _ _ (by rw [hsz]; omega)) (WI.set (by omega) (by omega) (by decide)) WI.bel
    ⟨⟨⟨_, hO2, World.ownsRow_nil _ _ _ _, trivial⟩, hB0⟩, _, bN⟩
    (fun x => { tmps := #[.string t, undef, .slice none 0 0, .pointer (some ⟨w.heap.size, 0, none⟩), .string x.1, .string t, .func (.func 80) #[] #[.pointer (some ⟨w.heap.size + 1, 0, none⟩)], .string x.1, undef, undef, undef, undef, undef, undef], defers := [] }) ?assign ?body ?done
  case assign =>
    intro l x W K hK
    gi_wp2
    exact hK
  case body =>
    rintro l pre x W ⟨⟨⟨v, hv, hrow, _⟩, hB⟩, u, hu⟩ hlt
    have hc := hv.cell
    obtain ⟨m, hm⟩ : ∃ m, numV x.1.data.toList = m := ⟨_, rfl⟩
    have HM := Lib.hid hm
    have HX := Lib.hid x.2
    have HE := Lib.hid (hL.bel hB).1
    have HB := Lib.hid hB
    have HV := Lib.hid hv
    have HROW := Lib.hid hrow
    clear hm hB hv hrow
    have mixed : Tryz.prog.follows .mixedOrders = true := by kernel_rfl
    gi_wp2
    have hvW := HV.out
    have hrW := HROW.out
    refine region_inv mixed (by kernel_rfl) (RW t x w W.drew v pre.length (intCells pre) m) ?step ?fin ?start
    case start =>
      refine ⟨fun _ => Bel.refl _, ⟨_, _, _, _, _, rfl, fun h => ?_, fun h => ?_, fun h => ?_, fun h => ?_, fun h => ?_⟩, fun h => ?_⟩ <;> simp at h
    case fin =>
      intro l a w' hall hI
      obtain ⟨v', w2, rfl, hM⟩ := hI.fin (hall 5 (by decide))
      have hdr : Below w.heap.size W W.drew := Below.drew (Below.refl _ W)
      have hBd := hdr.trans hM.below
      refine ⟨((KeepsOthers.drew W).trans hM.others).from _, hBd, fun j hj => hM.kept j hj, ⟨⟨v', hM.boxed, ?_, trivial⟩, Below.trans HB.out hBd⟩, u, (hM.kept _ rfl).trans hu⟩
      have hrr := hM.row
      have e1 : (pre ++ [x]).length = pre.length + 1 := by simp
      have e2 : intCells (pre ++ [x]) = intCells pre ++ [.int .i64 m] := by unfold intCells wordsOf; rw [List.map_append, List.map_append, List.map_cons, List.map_cons, HM.out]; rfl
      rw [e1, e2]
      exact hrr
    case step =>
      intro l a w' i o hl hcl hI ho hf hd K hK
      have hi6 : i < 6 := (Array.getElem?_eq_some_iff.1 ho).1
      obtain rfl | rfl | rfl | rfl | rfl | rfl : i = 0 ∨ i = 1 ∨ i = 2 ∨ i = 3 ∨ i = 4 ∨ i = 5 := by omega
      · obtain rfl := Option.some.inj ho
        have n4 : l[4]? = some false := not_yet (by rw [hl]; decide) (fun c => ne_tf hf (hcl 4 _ rfl c ⟨0, .data⟩ (by simp)))
        have n5 : l[5]? = some false := not_yet (by rw [hl]; decide) (fun c => ne_tf n4 (hcl 5 _ rfl c ⟨4, .data⟩ (by simp)))
        have hb := hI.pre n4
        obtain ⟨t8, t9, t10, t11, t12, rfl, f0, f1, f2, f3, f4⟩ := hI.frame
        simp only [List.getElem_toArray, List.getElem_cons_succ, List.getElem_cons_zero] at hd ⊢
        clear ho
        have hc : w'.cell? ⟨w.heap.size, 0, none⟩ = some v := (boxed_bel (boxed_bel hvW (Bel.refl W).drew) hb).cell
        refine ⟨by rfl, ?_⟩
        unfold rwF
        go_simp
        exact hK _ _ ⟨fun _ => hb, ⟨v, t9, t10, t11, t12, rfl, fun _ => rfl, fun h => f1 (by rwa [set_ne (by decide)] at h), fun h => f2 (by rwa [set_ne (by decide)] at h), fun h _ => f3 (by rwa [set_ne (by decide)] at h) n4, fun h => (ne_tf n4 (by rwa [set_ne (by decide)] at h)).elim⟩, fun h => (ne_tf n5 (by rwa [set_ne (by decide)] at h)).elim⟩
      · obtain rfl := Option.some.inj ho
        have n4 : l[4]? = some false := not_yet (by rw [hl]; decide) (fun c => ne_tf hf (hcl 2 _ rfl (hcl 3 _ rfl (hcl 4 _ rfl c ⟨3, .data⟩ (by simp)) ⟨2, .data⟩ (by simp)) ⟨1, .data⟩ (by simp)))
        have n5 : l[5]? = some false := not_yet (by rw [hl]; decide) (fun c => ne_tf n4 (hcl 5 _ rfl c ⟨4, .data⟩ (by simp)))
        have hb := hI.pre n4
        obtain ⟨t8, t9, t10, t11, t12, rfl, f0, f1, f2, f3, f4⟩ := hI.frame
        simp only [List.getElem_toArray, List.getElem_cons_succ, List.getElem_cons_zero] at hd ⊢
        clear ho
        refine ⟨by rfl, ?_⟩
        unfold rwF
        go_simp
        exact hK _ _ ⟨fun _ => hb, ⟨t8, .string x.1, t10, t11, t12, rfl, fun h => f0 (by rwa [set_ne (by decide)] at h), fun _ => rfl, fun h => f2 (by rwa [set_ne (by decide)] at h), fun h _ => f3 (by rwa [set_ne (by decide)] at h) n4, fun h => (ne_tf n4 (by rwa [set_ne (by decide)] at h)).elim⟩, fun h => (ne_tf n5 (by rwa [set_ne (by decide)] at h)).elim⟩
      · obtain rfl := Option.some.inj ho
        have n4 : l[4]? = some false := not_yet (by rw [hl]; decide) (fun c => ne_tf hf (hcl 3 _ rfl (hcl 4 _ rfl c ⟨3, .data⟩ (by simp)) ⟨2, .data⟩ (by simp)))
        have n5 : l[5]? = some false := not_yet (by rw [hl]; decide) (fun c => ne_tf n4 (hcl 5 _ rfl c ⟨4, .data⟩ (by simp)))
        have hb := hI.pre n4
        obtain ⟨t8, t9, t10, t11, t12, rfl, f0, f1, f2, f3, f4⟩ := hI.frame
        simp only [List.getElem_toArray, List.getElem_cons_succ, List.getElem_cons_zero] at hd ⊢
        clear ho
        obtain rfl := f1 (hd ⟨1, .data⟩ (by simp))
        refine ⟨by rfl, ?_⟩
        unfold rwF
        go_simp
        refine ⟨trivial, ?_⟩
        gi_at_call 44
        refine (CallsIn.inRound _ (number_in HM.out HX.out _ _ ((HE.out.bel (Bel.refl W).drew).bel hb))).mono ?_
        rintro e w1 ⟨rfl, hb1⟩
        exact hK _ _ ⟨fun _ => hb.trans hb1, ⟨t8, .string x.1, .int .i64 m, t11, t12, rfl, fun h => f0 (by rwa [set_ne (by decide)] at h), fun h => f1 (by rwa [set_ne (by decide)] at h), fun _ => rfl, fun h => (ne_tf (not_yet (by rw [hl]; decide) (fun c => ne_tf hf (hcl 3 _ rfl c ⟨2, .data⟩ (by simp)))) (by rwa [set_ne (by decide)] at h)).elim, fun h => (ne_tf n4 (by rwa [set_ne (by decide)] at h)).elim⟩, fun h => (ne_tf n5 (by rwa [set_ne (by decide)] at h)).elim⟩
      · obtain rfl := Option.some.inj ho
        have n4 : l[4]? = some false := not_yet (by rw [hl]; decide) (fun c => ne_tf hf (hcl 4 _ rfl c ⟨3, .data⟩ (by simp)))
        have n5 : l[5]? = some false := not_yet (by rw [hl]; decide) (fun c => ne_tf n4 (hcl 5 _ rfl c ⟨4, .data⟩ (by simp)))
        have hb := hI.pre n4
        obtain ⟨t8, t9, t10, t11, t12, rfl, f0, f1, f2, f3, f4⟩ := hI.frame
        simp only [List.getElem_toArray, List.getElem_cons_succ, List.getElem_cons_zero] at hd ⊢
        clear ho
        obtain rfl := f2 (hd ⟨2, .data⟩ (by simp))
        refine ⟨by rfl, ?_⟩
        unfold rwF
        go_simp
        exact hK _ _ ⟨fun _ => hb.alloc _ _, ⟨t8, t9, .int .i64 m, .slice (some ⟨w'.heap.size, 0, none⟩) 1 1, t12, rfl, fun h => f0 (by rwa [set_ne (by decide)] at h), fun h => f1 (by rwa [set_ne (by decide)] at h), fun h => f2 (by rwa [set_ne (by decide)] at h), fun _ _ => ⟨_, rfl, heap_alloc_new w' _⟩, fun h => (ne_tf n4 (by rwa [set_ne (by decide)] at h)).elim⟩, fun h => (ne_tf n5 (by rwa [set_ne (by decide)] at h)).elim⟩
      · obtain rfl := Option.some.inj ho
        have n5 : l[5]? = some false := not_yet (by rw [hl]; decide) (fun c => ne_tf hf (hcl 5 _ rfl c ⟨4, .data⟩ (by simp)))
        have hb := hI.pre hf
        obtain ⟨t8, t9, t10, t11, t12, rfl, f0, f1, f2, f3, f4⟩ := hI.frame
        simp only [List.getElem_toArray, List.getElem_cons_succ, List.getElem_cons_zero] at hd ⊢
        clear ho
        obtain rfl := f0 (hd ⟨0, .data⟩ (by simp))
        obtain ⟨B, rfl, hBn⟩ := f3 (hd ⟨3, .data⟩ (by simp)) hf
        obtain ⟨v', w2, hrun, hM⟩ := collect (P := Tryz.prog) (Z := fun j => j = w.heap.size + 1) Tryz.underlying22 hi hz0 hz1 hz2 rfl (by decide) (boxed_bel hvW (Bel.refl W).drew) (ownsRow_sv hrW ((Bel.refl W).drew.sv fun _ => False) (fun _ _ c => c)) hb (Nat.le_trans HB.out.size (Nat.le_refl _)) (Nat.le_refl _) (by decide) B (by rfl) hBn (by simp [Value.oneCell']) (by have := HT.out; omega) (by decide) (fun j hj => by subst hj; exact ⟨by omega, _, u, boxed_bel hu (Bel.refl W).drew, by decide⟩)
        refine ⟨by rfl, ?_⟩
        refine wpIn_app (.tmp 8) (.tmp 11) 22 rfl _ _ _ rfl rfl hrun rfl ?_
        exact hK _ _ ⟨fun h => (ne_tf h (set_eq hf)).elim, ⟨t8, t9, t10, .slice (some ⟨B, 0, none⟩) 1 1, v', rfl, fun _ => rfl, fun h => f1 (by rwa [set_ne (by decide)] at h), fun h => f2 (by rwa [set_ne (by decide)] at h), fun _ h => (ne_tf h (set_eq hf)).elim, fun _ _ => hM⟩, fun h => (ne_tf n5 (by rwa [set_ne (by decide)] at h)).elim⟩
      · obtain rfl := Option.some.inj ho
        obtain ⟨t8, t9, t10, t11, t12, rfl, f0, f1, f2, f3, f4⟩ := hI.frame
        simp only [List.getElem_toArray, List.getElem_cons_succ, List.getElem_cons_zero] at hd ⊢
        clear ho
        have n4 := hd ⟨4, .data⟩ (by simp)
        have hM := f4 n4 hf
        have hc := hM.cell
        have hfz := hM.frozen
        obtain ⟨g, c, rfl⟩ := hM.form
        refine ⟨by rfl, ?_⟩
        unfold rwF
        go_simp
        exact hK _ _ ⟨fun h => (ne_tf h (set_true n4)).elim, ⟨t8, t9, t10, t11, _, rfl, fun h => f0 (by rwa [set_ne (by decide)] at h), fun h => f1 (by rwa [set_ne (by decide)] at h), fun h => f2 (by rwa [set_ne (by decide)] at h), fun _ h => (ne_tf h (set_true n4)).elim, fun _ h => (ne_tf h (set_eq hf)).elim⟩, fun _ => ⟨_, w', rfl, hM⟩⟩
  case done =>
    rintro D ys W hD ⟨hS1, hS2⟩ ⟨⟨⟨v, hv, hrow, _⟩, hB⟩, u, hu⟩ hK
    have hc := hv.cell
    gi_wp2
    refine ⟨by simp, .inl ⟨_, _, rfl, run_takeDeferred hK, ?_⟩⟩
    exact ⟨_, results_tmp rfl _ _ _, v, ys, rfl, hS1, ownsRow_putObj hrow _ hK rfl, hS2, hB.trans (belowK_b (w := w) (Nat.le_refl _) W D _ _ (by rw [hsz] at hD; omega) hK rfl rfl)⟩
theorem ints_at {w : World} {base : Nat} {v : Value} {L : List Int} {n : Nat} (h : w.ownsRow base 3 1 v n (L.map (Value.int .i64))) : ∃ p c, v = .slice p L.length c ∧ EncAt icell 1 w p L ∧ ∀ q, p = some q → base ≤ q.block ∧ q.block < w.heap.size := by
  have hn : n = L.length := by have := h.1; simp at this; omega
  subst hn
  have he : ∀ M : List Int, M.flatMap icell = M.map (Value.int .i64) := fun M => by
    induction M with
    | nil => rfl
    | cons x r ih => rw [List.flatMap_cons, List.map_cons, ih]; rfl
  have h' : ERow icell 3 1 w base v L := by
    show w.ownsRow base 3 1 v L.length (L.flatMap icell)
    rw [he L]
    exact h
  obtain ⟨p, c, e1, e2, e3⟩ := ERow.form (enc := icell) (k := 1) (fun _ => rfl) h'
  exact ⟨p, c, e1, e2, e3⟩
/-- readWords at any text -/
theorem readWords_any (t : ByteArray) (ht : t.size ≤ 1000000) (w : World) (hL : LibAt w) (hS : SpAt w) :
    Calls Tryz.prog 48 #[.string t] w fun e w' => ∃ p c L, e = .returned (.slice p L.length c) ∧ EncAt icell 1 w' p L ∧ (∀ q, p = some q → w.heap.size ≤ q.block ∧ q.block < w'.heap.size) ∧ (∀ x ∈ L, 0 ≤ x ∧ x ≤ 4294967295) ∧ L.length ≤ 1000001 ∧ (asc t.data.toList → L = (fieldsG [] t.data.toList).map numV) ∧ Bel w w' := by
  refine ((callsIn_wide (n := 5)).1 (readWords_in 5 (by omega) t ht w hL hS)).mono ?_
  rintro e w' ⟨v, pre, rfl, h1, h2, h3, hb⟩
  obtain ⟨p, c, rfl, e1, e2⟩ := ints_at h2
  refine ⟨p, c, wordsOf pre, rfl, e1, e2, fun x hx => ?_, by unfold wordsOf; rw [List.length_map]; omega, fun ha => ?_, hb⟩
  · obtain ⟨y, _, rfl⟩ := List.mem_map.1 hx
    exact numV_bounds _
  · unfold wordsOf
    rw [← h1 ha, List.map_map]
    rfl
end Go.Proofs.YtbfmlbcjggplgaaGreatDoor
