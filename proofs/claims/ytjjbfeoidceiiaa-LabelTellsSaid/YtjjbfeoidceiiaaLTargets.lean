/- Which labels' items items lead to: package label's targets, over a map that the call makes. -/
import Derived.Test.YtjjbfeoidceiiaaLRow
import Derived.Maps.OwnSet
import Derived.Maps.OwnOps
namespace Go.Proofs.Ytjjbfeoidceiiaa
open Go.RowKit Rv Lb Go.WideMaps Go.Maps
set_option linter.unusedVariables false
theorem keyLaw : Keyed Try.prog 9 := string_keyed Try.underlying9
theorem zeroInt (w : World) : (zeroValue 3).run Try.prog w = .ok (.int .i64 0) w := by kernel_rfl
def keyLit (s : ByteArray) : Lit := .string s.data.toList
abbrev Owns (w : World) (b n : Nat) (D : DataW Unit) : Prop := w.ownsMap Try.prog 9 (plainElem (H := Unit) Try.prog 3) b n D
/-- the map has just the labels of the first k items -/
def Mirror (D : DataW Unit) (l : List Itm) (k : Nat) : Prop :=
  ∀ s : ByteArray, Maps.has D (keyLit s) = (namedTo l k s).isSome ∧ ∀ j, namedTo l k s = some j → D.atKey (keyLit s) (.lit (.int .i64 0)) = .lit (.int .i64 j)
theorem keyLit_inj {s t : ByteArray} (h : keyLit s = keyLit t) : s = t := by
  unfold keyLit at h
  obtain ⟨⟨x⟩⟩ := s
  obtain ⟨⟨y⟩⟩ := t
  simpa using h
theorem Mirror.nil (l : List Itm) : Mirror (.map []) l 0 := by
  intro s
  have : namedTo l 0 s = Option.none := by unfold namedTo; simp
  rw [this]
  exact ⟨rfl, fun j h => by cases h⟩
theorem Mirror.skip {D : DataW Unit} {l : List Itm} {k : Nat} {x : Itm} (h : Mirror D l k) (hx : l[k]? = some x) (hk : (x.kind == 2) = false) : Mirror D l (k + 1) := by
  intro s
  have e : namedTo l (k + 1) s = namedTo l k s := by
    rw [namedTo_succ hx, show isNamed s x = false by unfold isNamed; rw [decide_eq_false (by simpa using hk)]; rfl]
    simp
  rw [e]
  exact h s
theorem Mirror.put {D : DataW Unit} {l : List Itm} {k : Nat} {x : Itm} (h : Mirror D l k) (hm : IsMap D) (hx : l[k]? = some x) (hk : x.kind = 2) (hn : namedTo l k x.name = Option.none) : Mirror (D.put (keyLit x.name) (.lit (.int .i64 (k : Int)))) l (k + 1) := by
  intro s
  by_cases e : x.name = s
  · subst e
    have e : namedTo l (k + 1) x.name = some k := by
      rw [namedTo_succ hx, hn, show isNamed x.name x = true by unfold isNamed; simp [hk]]
      rfl
    rw [e]
    refine ⟨Maps.has_put_same hm ?_ _, fun j hj => ?_⟩
    · trivial
    · obtain rfl := Option.some.inj hj
      exact Maps.atKey_put_same hm (by trivial) _ _
  · have e' : namedTo l (k + 1) s = namedTo l k s := by
      rw [namedTo_succ hx, show isNamed s x = false by unfold isNamed; simp [hk, e]]
      simp
    have hne : keyLit s ≠ keyLit x.name := fun c => e (keyLit_inj c).symm
    rw [e', Maps.has_put_other hne]
    refine ⟨(h s).1, fun j hj => ?_⟩
    rw [Maps.atKey_put_other hne]
    exact (h s).2 j hj
theorem Both.turned {w0 w w' : World} {b : Nat} (h : Both w0 w) (ht : w.mapTurned w' b) (hb : w0.heap.size ≤ b) : Both w0 w' :=
  have g := ht.grown
  ⟨⟨g.os.trans h.1.os, g.tape.trans h.1.tape, g.output.trans h.1.output, Nat.le_trans h.1.size g.size, fun k hk => (g.block k (Nat.lt_of_lt_of_le hk h.1.size) (by intro c; cases c; omega)).trans (h.1.block k hk)⟩, fun a => (ht.frozen a).trans (h.2 a)⟩
theorem okT_no {l : List Itm} {k : Nat} (hk : k < l.length) (h : dupAt l k = true ∨ lostAt l k = true) : okT l = false := by
  cases e : okT l with
  | false => rfl
  | true =>
    have := (List.all_eq_true.1 e) k (List.mem_range.2 hk)
    rcases h with h | h <;> simp [h] at this
theorem okT_yes {l : List Itm} (h1 : ∀ j, j < l.length → dupAt l j = false) (h2 : ∀ j, j < l.length → lostAt l j = false) : okT l = true := by
  refine List.all_eq_true.2 fun j hj => ?_
  have hj := List.mem_range.1 hj
  rw [h1 j hj, h2 j hj]
  rfl
/-- the labels' items of the first k items -/
def tos (l : List Itm) (k : Nat) : List Int := (List.range l.length).map fun j => if j < k then (to l j : Int) else 0
theorem tos_len (l : List Itm) (k : Nat) : (tos l k).length = l.length := by simp [tos]
theorem tos_zero (l : List Itm) : tos l 0 = List.replicate l.length 0 := by
  unfold tos
  rw [List.eq_replicate_iff]
  simp
theorem tos_skip {l : List Itm} {k : Nat} (h : to l k = 0) : tos l (k + 1) = tos l k := by
  unfold tos
  refine List.map_congr_left fun j _ => ?_
  by_cases e : j = k
  · subst e; rw [if_pos (by omega), if_neg (by omega), h]; rfl
  · by_cases f : j < k
    · rw [if_pos (by omega), if_pos f]
    · rw [if_neg (by omega), if_neg f]
theorem tos_put {l : List Itm} {k : Nat} (hk : k < l.length) : (ints (tos l k)).toArray.setIfInBounds k (.int .i64 (to l k)) = (ints (tos l (k + 1))).toArray := by
  apply Array.ext'
  apply List.ext_getElem?
  intro j
  simp only [Array.toList_setIfInBounds, List.getElem?_set, ints, tos, List.length_map, List.length_range, List.getElem?_map, List.map_map]
  by_cases e : k = j
  · subst e
    rw [if_pos rfl, if_pos hk, List.getElem?_range hk]
    simp
  · rw [if_neg e]
    by_cases h : j < l.length
    · rw [List.getElem?_range h]
      simp only [Option.map_some]
      by_cases f : j < k
      · simp [f, show j < k + 1 by omega]
      · simp [f, show ¬ j < k + 1 by omega]
    · rw [List.getElem?_eq_none (by simpa using h)]
      rfl
theorem frozen_allocMap (w : World) (es : _) (c : _) (a : Addr) : (w.alloc (.map es c)).frozen? a = w.frozen? a := by
  rw [frozen_marks, frozen_marks]
  by_cases h : a.block < w.heap.size
  · rw [heap_alloc_old _ _ h]
  · by_cases e : a.block = w.heap.size
    · rw [e, heap_alloc_new, Array.getElem?_eq_none (Nat.le_refl _)]
      rfl
    · rw [Array.getElem?_eq_none (show (w.alloc (.map es c)).heap.size ≤ a.block by show (w.heap.push _).size ≤ _; simp; omega), Array.getElem?_eq_none (by omega)]
theorem Both.allocMap {w w' : World} (h : Both w w') (es : _) (c : _) : Both w (w'.alloc (.map es c)) := ⟨h.1.alloc h.1.size _, fun a => (frozen_allocMap _ _ _ a).trans (h.2 a)⟩
/-- what is known at the head of the first loop -/
structure Lp1 (w wr : World) (l : List Itm) (k : Nat) : Prop where
  both : Both w wr
  map : ∃ D, Owns wr w.heap.size k D ∧ Mirror D l k
  dup : ∀ j, j < k → dupAt l j = false
/-- what is known at the head of the second loop -/
structure Lp2 (w wr : World) (l : List Itm) (D : DataW Unit) (B k : Nat) : Prop where
  both : Both w wr
  map : Owns wr w.heap.size l.length D
  new : w.heap.size < B
  row : wr.heap[B]? = some (.cells (ints (tos l k)).toArray 3 (0, 0))
  lost : ∀ j, j < k → lostAt l j = false
/-- the answer of targets -/
def Tgt (l : List Itm) (w : World) (e : Ending) (w' : World) : Prop :=
  Both w w' ∧ ((okT l = true ∧ ∃ B, e = .returned (.tuple #[.slice (some ⟨B, 0, none⟩) l.length l.length, .bool true]) ∧ w.heap.size ≤ B ∧ w'.heap[B]? = some (.cells (ints (tos l l.length)).toArray 3 (0, 0))) ∨
    (okT l = false ∧ e = .returned (.tuple #[.slice none 0 0, .bool false])))
theorem Both.owns {w0 w w' : World} {b n : Nat} {D : DataW Unit} (h : Owns w b n D) (hb : Both w w') : Owns w' b n D :=
  World.ownsMap.kept h (row := none) ⟨hb.1.os, hb.1.tape, hb.1.output, hb.1.size, fun k hk _ => hb.1.block k hk⟩ (by simp)

theorem Lp2.put {w wr : World} {l : List Itm} {D : DataW Unit} {B k j0 : Nat} (h : Lp2 w wr l D B k) (hk : k < l.length) (ht : to l k = j0) (hl : lostAt l k = false) (cs : Array Value) (t : TypeId) : Lp2 w ((wr.alloc (.cells cs t)).setCell ⟨B, k, none⟩ (.int .i64 j0)) l D B (k + 1) := by
  have hr : (wr.alloc (.cells cs t)).heap[B]? = some (.cells (ints (tos l k)).toArray 3 (0, 0)) := (heap_alloc_old _ _ (lt_of_heap h.row)).trans h.row
  refine ⟨?_, (h.map.alloc _).setCell (by have := h.new; simp only; omega) _, h.new, ?_, fun j hj => ?_⟩
  · exact (h.both.alloc _ _).setCell (by have := h.new; simp only; omega) _
  · rw [setCell_eq_setRow _ B k _ _ (0, 0) _ hr, ← ht, tos_put hk]
    exact setRow_heap _ _ _ _ _ _ hr
  · by_cases e : j < k
    · exact h.lost j e
    · obtain rfl : j = k := by omega
      exact hl
set_option maxRecDepth 100000 in
set_option maxHeartbeats 4000000 in
theorem targets_any (b o c : Nat) (l : List Itm) (w : World) (HI : Hid (ItemsAt w b o l)) (hlen : l.length ≤ 40000) (hwf : Hid (∀ x ∈ l, Itm.wf x)) :
    Calls Try.prog 62 #[.slice (some ⟨b, o, none⟩) l.length c] w (Tgt l w) := by
  have hmm := @run_makeMap Try.prog
  have hmk := make_ints 31 Try.underlying31 l.length l.length (Nat.le_refl _) (by omega)
  have ex0 : ∀ (x y : Value) (W : World), (Instr.extract (.tuple #[x, y]) 0).run Try.prog W = .ok x W := fun x y W => by kernel_rfl
  have ex1 : ∀ (x y : Value) (W : World), (Instr.extract (.tuple #[x, y]) 1).run Try.prog W = .ok y W := fun x y W => by kernel_rfl
  go_enter Try.func62, Try.ntmps62
  go_wp2_with fail
  go_loopw [17] (fun i wr => ∃ k : Nat, k ≤ l.length ∧ i = .int .i64 k ∧ Hid (Lp1 w wr l k)) (fun i _ => l.length - (intOf i).toNat)
  case atStart =>
    refine ⟨0, by omega, rfl, ⟨?_, ⟨_, World.ownsMap_made _ _ _ _, Mirror.nil l⟩, fun j h => by omega⟩⟩
    exact (Both.refl w).allocMap _ _
  case round =>
    obtain ⟨k, hk, rfl, HL⟩ := hrel
    by_cases hlt : k < l.length
    · obtain ⟨kd, xo, xd, xa, xb, xn, xm, xs, hx⟩ := items_one hlt
      obtain ⟨c0, c1, c2, c3, c4, c5, c6, c7⟩ := (HI.out.both HL.out.both).get hx
      obtain ⟨D, hown, hmir⟩ := HL.out.map
      have hkey : keyOf Try.prog 9 (.string xs) = some (keyLit xs) := keyOf_string_mk Try.underlying9 (hwf.out _ (List.mem_of_getElem? hx)).name
      have HX := Lib.hid hx
      have HM := Lib.hid hmir
      clear hx hmir hmk
      cases hkd : (kd != 2) with
      | true =>
        go_wp2_with fail
        go_roundw
        case rel =>
          refine ⟨k + 1, hlt, by go_num, ⟨HL.out.both.alloc _ _, ⟨D, (hown.alloc _).mono (by omega), HM.out.skip HX.out (by simpa using hkd)⟩, fun j hj => ?_⟩⟩
          by_cases e : j < k
          · exact HL.out.dup j e
          · obtain rfl : j = k := by omega
            unfold dupAt
            rw [HX.out]
            simp only
            rw [decide_eq_false (by simpa using hkd), Bool.false_and]
        case measure => simp [intOf]; omega
      | false =>
        have hk2 : kd = 2 := by simpa using hkd
        subst hk2
        clear hkd
        cases hn : namedTo l k xs with
        | some j0 =>
          have hh : Maps.has D (keyLit xs) = true := by rw [(HM.out xs).1, hn]; rfl
          have HN : Hid (okT l = false) := okT_no hlt (Or.inl (by unfold dupAt; rw [HX.out]; simp only; rw [hn]; rfl))
          clear hn
          go_wp2_with (at_lookup; refine wpList_lookup_own_ok_int _ rfl _ _ 106 rfl 9 3 .i64 keyLaw Try.underlying106 Try.underlying3 (zeroInt _) w.heap.size k D rfl (hown.alloc _) _ _ rfl hkey ?_; intro c' hat hwc)
          go_ret2
          exact ⟨HL.out.both.alloc _ _, Or.inr ⟨HN.out, rfl⟩⟩
        | none =>
          have hh : Maps.has D (keyLit xs) = false := by rw [(HM.out xs).1, hn]; rfl
          have HN := Lib.hid hn
          have hdup : dupAt l k = false := by unfold dupAt; rw [HX.out]; simp only; rw [hn]; rfl
          have HD := Lib.hid hdup
          have hwk : (Lit.int .i64 (k : Int)).wf = true := WalkArith.wf_i64 (by omega)
          clear hn hdup
          go_wp2_with (first
            | (at_lookup; refine wpList_lookup_own_ok_int _ rfl _ _ 106 rfl 9 3 .i64 keyLaw Try.underlying106 Try.underlying3 (zeroInt _) w.heap.size k D rfl (hown.alloc _) _ _ rfl hkey ?_; intro c' hat hwc)
            | (at_mapUpdate; refine wpList_mapUpdate_in _ rfl _ _ _ 106 rfl 9 3 keyLaw Try.underlying106 _ w.heap.size k D rfl (hown.alloc _) (by unfold maxLen; omega) _ _ _ rfl rfl hkey _ [] (plainElem_int Try.underlying3 hwk) ?_))
          intro w1 hown1 hturn1
          have HB1 := Lib.hid ((HL.out.both.alloc _ _).turned hturn1 (Nat.le_refl _))
          have HO1 := Lib.hid hown1
          have HI1 := Lib.hid (HM.out.put hown.isMap HX.out rfl HN.out)
          clear hown1 hturn1 hh hkey c0 c1 c2 c3 c4 c5 c6 c7 hown
          go_wp2_with fail
          go_roundw
          case rel =>
            refine ⟨k + 1, hlt, by go_num, ⟨HB1.out, ⟨_, HO1.out, HI1.out⟩, fun j hj => ?_⟩⟩
            by_cases e : j < k
            · exact HL.out.dup j e
            · obtain rfl : j = k := by omega
              exact HD.out
          case measure => simp [intOf]; omega
    · obtain rfl : k = l.length := by omega
      obtain ⟨D, hown, hmir⟩ := HL.out.map
      have HM := Lib.hid hmir
      have HO := Lib.hid hown
      have hlw : w.heap.size < wr.heap.size := hown.lt
      clear hown hmir hlt
      go_wp2_with fail
      have hL2 : Lp2 w (wr.alloc (.cells (ints (List.replicate l.length 0)).toArray 3)) l D wr.heap.size 0 :=
        ⟨HL.out.both.alloc _ _, HO.out.alloc _, hlw, by rw [tos_zero]; exact heap_alloc_new _ _, fun j h => by omega⟩
      have HD := Lib.hid HL.out.dup
      clear HL HO
      have HL2 := Lib.hid hL2
      clear hL2 hmk
      generalize wr.alloc (.cells (ints (List.replicate l.length 0)).toArray 3) = W2 at HL2 ⊢
      generalize wr.heap.size = B at HL2 hlw ⊢
      go_loopw [43] (fun i wz => ∃ k : Nat, k ≤ l.length ∧ i = .int .i64 k ∧ Hid (Lp2 w wz l D B k)) (fun i _ => l.length - (intOf i).toNat)
      case atStart => exact ⟨0, by omega, rfl, HL2.out⟩
      case round =>
        rename_i wz
        obtain ⟨k, hk, rfl, HL⟩ := hrel
        by_cases hlt : k < l.length
        · obtain ⟨kd, xo, xd, xa, xb, xn, xm, xs, hx⟩ := items_one hlt
          obtain ⟨c0, c1, c2, c3, c4, c5, c6, c7⟩ := (HI.out.both HL.out.both).get hx
          have hown := HL.out.map
          have hkey : keyOf Try.prog 9 (.string xs) = some (keyLit xs) := keyOf_string_mk Try.underlying9 (hwf.out _ (List.mem_of_getElem? hx)).name
          have HX := Lib.hid hx
          clear hx
          cases hkd : (kd != 3) with
          | true =>
            go_wp2_with fail
            go_roundw
            case rel =>
              have hk3 : ¬ kd = 3 := by simpa using hkd
              refine ⟨k + 1, hlt, by go_num, ⟨HL.out.both.alloc _ _, hown.alloc _, HL.out.new, ?_, fun j hj => ?_⟩⟩
              · rw [tos_skip (by unfold to; rw [HX.out]; simp only; rw [if_neg hk3]), heap_alloc_old _ _ (Array.getElem?_eq_some_iff.1 HL.out.row).1]
                exact HL.out.row
              · by_cases e : j < k
                · exact HL.out.lost j e
                · obtain rfl : j = k := by omega
                  unfold lostAt
                  rw [HX.out]
                  simp only
                  rw [decide_eq_false hk3, Bool.false_and]
            case measure => simp [intOf]; omega
          | false =>
            have hk3 : kd = 3 := by simpa using hkd
            subst hk3
            clear hkd
            have hnt : namedTo l l.length xs = named l xs := by unfold namedTo named; rw [List.take_length]
            cases hn : named l xs with
            | none =>
              have hh : Maps.has D (keyLit xs) = false := by rw [(HM.out xs).1, hnt, hn]; rfl
              have HN : Hid (okT l = false) := okT_no hlt (Or.inr (by unfold lostAt; rw [HX.out]; simp only; rw [hn]; rfl))
              clear hn hnt
              go_wp2_with (at_lookup; refine wpList_lookup_own_ok_int _ rfl _ _ 106 rfl 9 3 .i64 keyLaw Try.underlying106 Try.underlying3 (zeroInt _) w.heap.size l.length D rfl (hown.alloc _) _ _ rfl hkey ?_; intro c' hat hwc)
              go_ret2
              exact ⟨HL.out.both.alloc _ _, Or.inr ⟨HN.out, rfl⟩⟩
            | some j0 =>
              have hh : Maps.has D (keyLit xs) = true := by rw [(HM.out xs).1, hnt, hn]; rfl
              have ha : D.atKey (keyLit xs) (.lit (.int .i64 0)) = .lit (.int .i64 j0) := (HM.out xs).2 j0 (by rw [hnt, hn])
              have hto : to l k = j0 := by unfold to; rw [HX.out]; simp [hn]
              have HA := Lib.hid ha
              have HT := Lib.hid hto
              have HN : Hid (lostAt l k = false) := by unfold lostAt; rw [HX.out]; simp only; rw [hn]; rfl
              clear hn hnt ha hto
              go_upto_region 19 with (at_lookup; refine wpList_lookup_own_ok_int _ rfl _ _ 106 rfl 9 3 .i64 keyLaw Try.underlying106 Try.underlying3 (zeroInt _) w.heap.size l.length D rfl (hown.alloc _) _ _ rfl hkey ?_; intro c' hat hwc)
              obtain rfl : c' = (j0 : Int) := by
                have := hat.symm.trans HA.out
                injection this with e1
                injection e1
              have hrB : (wr.alloc (.cells #[.int .i64 3, .int .i64 xo, .int .i64 xd, .int .i64 xa, .int .i64 xb, .int .i64 xn, .string xs, .int .i64 xm] 26)).heap[B]? = some (.cells (ints (tos l k)).toArray 3 (0, 0)) := (heap_alloc_old _ _ (lt_of_heap HL.out.row)).trans HL.out.row
              have hf := frozen_of_heap hrB k
              have hq := cell_of_heap hrB k
              rw [List.getElem?_toArray, List.getElem?_eq_getElem (by simpa [ints, tos] using hlt)] at hq
              generalize (ints (tos l k))[k]'(by simpa [ints, tos] using hlt) = q0 at hq
              have hP := HL.out.put hlt HT.out HN.out #[.int .i64 3, .int .i64 xo, .int .i64 xd, .int .i64 xa, .int .i64 xb, .int .i64 xn, .string xs, .int .i64 xm] 26
              generalize wr.alloc (.cells #[.int .i64 3, .int .i64 xo, .int .i64 xd, .int .i64 xa, .int .i64 xb, .int .i64 xn, .string xs, .int .i64 xm] 26) = W3 at hf hq hP ⊢
              have HP := Lib.hid hP
              clear hP hrB hat hwc hh hkey hown c0 c1 c2 c3 c4 c5 c6 c7
              go_wp2_with fail
              go_roundw
              case rel => exact ⟨k + 1, hlt, by go_num, HP.out⟩
              case measure => simp [intOf]; omega
        · obtain rfl : k = l.length := by omega
          go_wp2_with fail
          go_ret2
          exact ⟨HL.out.both, Or.inl ⟨okT_yes HD.out HL.out.lost, B, rfl, Nat.le_of_lt HL.out.new, HL.out.row⟩⟩
end Go.Proofs.Ytjjbfeoidceiiaa
