/- strings.FieldsSeq: the words of a text. -/
import Derived.RangeFuncNested
import Derived.RangeFuncBound
import Derived.RangeFuncCalls
import Derived.RangeFuncLeaves
import Derived.RangeFuncFrom
import Derived.Shelf.Abstract
import Derived.Shelf.RegionOpen
import Derived.WalkKit
import Derived.OwnWalkIn
import Derived.TacticsInMore
import Derived.LoopNIn
import Derived.LoopIn
import Derived.Lib.TrimU
import Derived.Lib.FieldsU
import Derived.Test.YtbfmlbcjggplgaaGreatDoorISplit
import Derived.Test.YtbfmlbcjggplgaaGreatDoorIFieldsP
namespace Go.Proofs.YtbfmlbcjggplgaaGreatDoor
open Go.RowKit Go.Shelf Im
set_option linter.unusedVariables false
attribute [local go_sem] Oper.semAt_some
/-- what the library's tables of blanks hold -/
def SpAt (w : World) : Prop := (∀ c : Nat, c < 256 → w.cell? ⟨1, c, none⟩ = some (.int .u8 (if 9 ≤ c ∧ c ≤ 13 ∨ c = 32 then 1 else 0))) ∧ Lib.Utf8Tabs 6 7 w ∧ Lib.WhiteTab 2 w
theorem SpAt.bel {w w' : World} (h : SpAt w) (hb : Bel w w') : SpAt w' := by
  refine ⟨fun c hc => ?_, Utf8Tabs_below h.2.1 hb, WhiteTab_below h.2.2 hb⟩
  have h0 := h.1 c hc
  exact (hb.cell (World.block_lt_of_cell? _ _ h0)).trans h0
theorem SpAt.yes {w : World} (h : SpAt w) {c : UInt8} (hc : isSp c = true) : w.cell? ⟨1, c.toNat, none⟩ = some (.int .u8 1) := by
  rw [h.1 _ (UInt8.toNat_lt c), if_pos (of_decide_eq_true hc)]
theorem SpAt.no {w : World} (h : SpAt w) {c : UInt8} (hc : isSp c = false) : w.cell? ⟨1, c.toNat, none⟩ = some (.int .u8 0) := by
  rw [h.1 _ (UInt8.toNat_lt c), if_neg (of_decide_eq_false hc)]
theorem decode_in {s : ByteArray} {R K : Nat} (h : Lib.decodeGo s = (R, K)) (n : Nat) (w : World) (hS : SpAt w) :
    CallsIn Fence.wide n Tryz.prog 81 #[.string s] w fun e w' => e = .returned (.tuple #[.int .i32 R, .int .i64 K]) ∧ Bel w w' := by
  have := Tryz.utf8_DecodeRuneInString s w hS.2.1
  rw [h] at this
  exact callsIn_wide.2 this
theorem space_in {r : Nat} {b : Bool} (h : Lib.isSpaceZ (r : Int) = b) (hr : r ≤ 1114111) (n : Nat) (w : World) (hS : SpAt w) :
    CallsIn Fence.wide n Tryz.prog 82 #[.int .i32 r] w fun e w' => e = .returned (.bool b) ∧ Bel w w' := by
  have := Tryz.unicode_IsSpace_any_d (r : Int) w (by omega) (by omega) hS.2.2
  rw [h] at this
  exact callsIn_wide.2 (this.mono fun e w' ⟨h1, q, h2⟩ => ⟨h1, by rw [h2]; exact (Bel.refl _).drewN q⟩)
theorem decode_wide {s : ByteArray} {R K : Nat} (h0 : 0 < s.size) (h : Lib.decodeGo s = (R, K)) : 1 ≤ K ∧ K ≤ s.size ∧ R ≤ 1114111 := by
  unfold Lib.decodeGo at h
  rw [if_neg (by omega)] at h
  have h1 := Lib.width_pos s 0
  have h2 := Lib.rune_le s 0
  have h3 : (Utf8.decode s 0).2 ≤ s.size := by
    rw [Lib.decode_at, Nat.sub_zero]
    exact Lib.decodeN_le_n' _ _ _ _ _ h0
  rw [h] at h1 h2 h3
  exact ⟨h1, h3, h2⟩
def stV : Option Nat → Value
  | none => .int .i64 (-1)
  | some k => .int .i64 (k : Nat)
/-- the walk's standing -/
structure FSt (s : ByteArray) (b : Nat) (w0 : World) (J : List Txt → World → Prop) (pre : List Txt) (st : Option Nat) (i : Nat) (wr : World) : Prop where
  J : J pre wr
  bel : Bel w0 wr
  le : i ≤ s.size
  many : pre.length ≤ i
  lo : ∀ k, st = some k → k < i
  box : wr.heap[b]? = some (.cells #[.string s] 9 (0, 0))
  ok : FOk s.data.toList (pre.map fun x => x.1.data.toList) st i
set_option maxRecDepth 100000 in
set_option maxHeartbeats 4000000 in
theorem fields1_in (n : Nat) (hn : 2 ≤ n) (l b : Nat) (s : ByteArray) (hs : s.size ≤ 1000000) (w0 : World) (hS : SpAt w0) (J : List Txt → World → Prop) (W : World) (hb : W.heap[b]? = some (.cells #[.string s] 9 (0, 0))) (hW : Bel w0 W)
    (hJb : ∀ pre A B, J pre A → Bel A B → J pre B)
    (hY : ∀ pre x A, J pre A → pre.length < s.size + 1 → YieldAt Fence.wide (n - 1) Tryz.prog l (txtV x) A fun e B => e = .returned (.bool true) ∧ J (pre ++ [x]) B ∧ Below w0.heap.size A B ∧ ∀ k, k = b → B.heap[k]? = A.heap[k]?)
    (h0 : J [] W) :
    CallsIn Fence.wide n Tryz.prog 80 (#[.func (.yield l) #[] #[]] ++ #[.pointer (some ⟨b, 0, none⟩)]) W fun e B => (∃ v, e = .returned v) ∧ ∃ xs : List Txt, (asc s.data.toList → xs.map (fun x => x.1.data.toList) = fieldsG [] s.data.toList) ∧ xs.length ≤ s.size + 1 ∧ J xs B := by
  have hn1 : 1 ≤ n := by omega
  have HY := Lib.hid hY
  have HJB := Lib.hid hJb
  have HS := Lib.hid hs
  have HSP := Lib.hid hS
  have H0 := Lib.hid (⟨h0, hW, Nat.zero_le _, Nat.zero_le _, fun k h => (by cases h), hb, FOk.start _⟩ : FSt s b w0 J [] none 0 W)
  clear hY hJb hb hS h0 hW
  refine callsIn_of_wp Tryz.func80 rfl trivial ?_ rfl
  simp only [Tryz.ntmps80, List.size_toArray, List.length_cons, List.length_nil, Nat.reduceAdd, Nat.reduceSub, Array.replicate_succ, Array.replicate_zero, List.push_toArray, List.append_toArray, List.nil_append, List.cons_append]
  gi_wp2
  gi_loopw [3, 4, 5, 6, 7] (fun a i c d e wr => ∃ (pre : List Txt) (st : Option Nat) (k : Nat), a = stV st ∧ i = .int .i64 k ∧ Hid (FSt s b w0 J pre st k wr)) (fun a i c d e _ => s.size - (intOf i).toNat)
  case atStart => exact ⟨[], none, 0, rfl, rfl, H0⟩
  case round =>
    obtain ⟨pre, st, i, rfl, rfl, HR⟩ := hrel
    have cb : wr.cell? ⟨b, 0, none⟩ = some (.string s) := cell_of_heap HR.out.box 0
    have hile := HR.out.le
    by_cases hi : i < s.size
    · obtain ⟨c, hc⟩ : ∃ c, s[i]'hi = c := ⟨_, rfl⟩
      have hcL : s.data.toList[i]? = some c := by rw [← hc]; simp [hi]; rfl
      have HC := Lib.hid hcL
      have hi' : (i : Int) < (s.size : Int) := by omega
      have hc256 : (c.toNat : Int) < 256 := by have := UInt8.toNat_lt c; omega
      cases hsp : isSp c with
      | true =>
        have ct := (HSP.out.bel HR.out.bel).yes hsp
        have hlt : (c.toNat : Int) < 128 := by have := of_decide_eq_true hsp; omega
        have HR2 := HR
        have HIK : Hid (i + 1 ≤ s.size) := Lib.hid hi
        have HK1 : Hid (1 ≤ 1) := Lib.hid (Nat.le_refl _)
        clear hcL
        cases st with
        | none =>
          simp only [stV]
          have HN : Hid (FSt s b w0 J pre none (i + 1) wr) := Lib.hid ⟨HR2.out.J, HR2.out.bel, HIK.out, Nat.le_trans HR.out.many (Nat.le_add_right _ _), fun k h => (by cases h), HR2.out.box, HR.out.ok.skip HC.out hsp⟩
          clear hile
          gi_wp2
          go_roundw
          case rel => exact ⟨pre, none, i + 1, rfl, by go_num, HN⟩
          case measure => simp [intOf]; have := HIK.out; have := HK1.out; omega
        | some k =>
          simp only [stV]
          have hki := HR.out.lo k rfl
          have hk1 : (k : Int) ≤ (i : Int) := by omega
          have hi2 : (i : Int) ≤ (s.size : Int) := by omega
          obtain ⟨x, hx⟩ : ∃ x, s.extract k i = x := ⟨_, rfl⟩
          have hxl : x.data.toList = (s.data.toList.drop k).take (i - k) := by rw [← hx, ← ByteArray.toList_eq, Lib.extract_toList]
          have hxs : x.size ≤ 1000000 := by
            have h1 := congrArg List.length hxl
            have h2 := HS.out
            rw [List.length_take, List.length_drop, size_list, size_list] at h1
            omega
          obtain ⟨fn, tmps, assign, body, hy, hR⟩ := HY.out pre ⟨x, hxs⟩ wr HR2.out.J (by have := HR.out.many; omega)
          have hy : (Instr.yield l #[.string x]).run Tryz.prog wr = .ok (.round l fn tmps assign body) wr := hy
          have HN : Hid (∀ B, J (pre ++ [⟨x, hxs⟩]) B → Below w0.heap.size wr B → B.heap[b]? = wr.heap[b]? → FSt s b w0 J (pre ++ [⟨x, hxs⟩]) none (i + 1) B) := Lib.hid (fun B h1 h2 h3 => ⟨h1, Below.trans HR2.out.bel h2, HIK.out, by have := HR.out.many; have := HK1.out; simp; omega, fun k h => (by cases h), h3.trans HR2.out.box, by rw [List.map_append]; show FOk _ (_ ++ [x.data.toList]) _ _; rw [hxl]; exact HR.out.ok.word hki HC.out hsp⟩)
          have HX := Lib.hid hxl
          clear hxl HR hile
          gi_wp2
          refine hR.mono ?_
          rintro e B ⟨rfl, hJ, hbl⟩
          have HN2 := Lib.hid (HN.out B hJ hbl.1 (hbl.2 b rfl))
          clear hJ hbl hR hy
          gi_wp2
          go_roundw
          case rel => exact ⟨pre ++ [⟨x, hxs⟩], none, i + 1, rfl, by go_num, HN2⟩
          case measure => simp [intOf]; have := HIK.out; have := HK1.out; omega
      | false =>
        have ct := (HSP.out.bel HR.out.bel).no hsp
        by_cases hlt : (c.toNat : Int) < 128
        · have HR2 := HR
          have HIK : Hid (i + 1 ≤ s.size) := Lib.hid hi
          have HK1 : Hid (1 ≤ 1) := Lib.hid (Nat.le_refl _)
          clear hcL
          cases st with
          | none =>
            simp only [stV]
            have HN : Hid (FSt s b w0 J pre (some i) (i + 1) wr) := Lib.hid ⟨HR2.out.J, HR2.out.bel, HIK.out, Nat.le_trans HR.out.many (Nat.le_add_right _ _), fun k h => (by cases h; have := HK1.out; omega), HR2.out.box, HR.out.ok.begin HC.out hsp⟩
            clear hile
            gi_wp2
            go_roundw
            case rel => exact ⟨pre, some i, i + 1, rfl, by go_num, HN⟩
            case measure => simp [intOf]; have := HIK.out; have := HK1.out; omega
          | some k =>
            simp only [stV]
            have hki := HR.out.lo k rfl
            have hk1 : (0 : Int) ≤ (k : Int) := by omega
            have HN : Hid (FSt s b w0 J pre (some k) (i + 1) wr) := Lib.hid ⟨HR2.out.J, HR2.out.bel, HIK.out, Nat.le_trans HR.out.many (Nat.le_add_right _ _), fun k' h => (by cases h; omega), HR2.out.box, HR.out.ok.more (Nat.le_of_lt hki) HC.out hsp⟩
            clear hile
            gi_wp2
            go_roundw
            case rel => exact ⟨pre, some k, i + 1, rfl, by go_num, HN⟩
            case measure => simp [intOf]; have := HIK.out; have := HK1.out; omega
        · have hw : 128 ≤ c.toNat := by omega
          have hge : (128 : Int) ≤ (c.toNat : Int) := by omega
          obtain ⟨T, hT⟩ : ∃ T, s.extract i s.size = T := ⟨_, rfl⟩
          have hTs : T.size = s.size - i := by rw [← hT]; simp
          obtain ⟨⟨R, K⟩, hRK⟩ : ∃ p, Lib.decodeGo T = p := ⟨_, rfl⟩
          obtain ⟨k1, k2, k3⟩ := decode_wide (by omega) hRK
          obtain ⟨sb, hsb⟩ : ∃ v, Lib.isSpaceZ (R : Int) = v := ⟨_, rfl⟩
          have HRK := Lib.hid hRK
          have HSB := Lib.hid hsb
          have HR3 := Lib.hid k3
          have HIK : Hid (i + K ≤ s.size) := Lib.hid (by omega)
          have HK1 := Lib.hid k1
          have HSW := Lib.hid (HSP.out.bel HR.out.bel)
          have hik : (i : Int) + (K : Int) ≤ 1000000 := by have := HS.out; omega
          have vik : IntKind.i64.wrap ((i : Int) + (K : Int)) = (i : Int) + (K : Int) := IntWalk.i64_in _ (by constructor <;> omega)
          clear hcL hRK hsb k1 k2 k3 hTs hlt hsp
          gi_wp2_with (refine ⟨trivial, ?_⟩; gi_at_call 81; refine (decode_in HRK.out _ _ HSW.out).mono ?_; rintro e w1 ⟨rfl, hb1⟩)
          have HSW1 := Lib.hid (HSW.out.bel hb1)
          have HB1 := Lib.hid hb1
          clear hb1
          cases sb with
          | true =>
            cases st with
            | none =>
              simp only [stV]
              gi_wp2_with (
                refine ⟨trivial, ?_⟩
                gi_at_call 82
                refine (space_in HSB.out HR3.out _ _ HSW1.out).mono ?_
                rintro e w2 ⟨rfl, hb2⟩
                have hbw := HB1.out.trans hb2
                have cb2 : w2.cell? ⟨b, 0, none⟩ = some (.string s) := cell_of_heap (hbw.stays HR.out.box) 0
                have HR2 : Hid (FSt s b w0 J pre _ i w2) := Lib.hid ⟨HJB.out _ _ _ HR.out.J hbw, HR.out.bel.trans hbw, HR.out.le, HR.out.many, HR.out.lo, hbw.stays HR.out.box, HR.out.ok⟩
                have HN : Hid (FSt s b w0 J pre none (i + K) w2) := Lib.hid ⟨HR2.out.J, HR2.out.bel, HIK.out, Nat.le_trans HR.out.many (Nat.le_add_right _ _), fun k h => (by cases h), HR2.out.box, FOk.wild HC.out hw _ _ _⟩
                clear hile
                clear hb2 hbw)
              go_roundw
              case rel => exact ⟨pre, none, i + K, rfl, by go_num, HN⟩
              case measure => simp [intOf]; have := HIK.out; have := HK1.out; omega
            | some k =>
              simp only [stV]
              have hki := HR.out.lo k rfl
              have hk1 : (k : Int) ≤ (i : Int) := by omega
              have hi2 : (i : Int) ≤ (s.size : Int) := by omega
              obtain ⟨x, hx⟩ : ∃ x, s.extract k i = x := ⟨_, rfl⟩
              gi_wp2_with (
                refine ⟨trivial, ?_⟩
                gi_at_call 82
                refine (space_in HSB.out HR3.out _ _ HSW1.out).mono ?_
                rintro e w2 ⟨rfl, hb2⟩
                have hbw := HB1.out.trans hb2
                have cb2 : w2.cell? ⟨b, 0, none⟩ = some (.string s) := cell_of_heap (hbw.stays HR.out.box) 0
                have HR2 : Hid (FSt s b w0 J pre _ i w2) := Lib.hid ⟨HJB.out _ _ _ HR.out.J hbw, HR.out.bel.trans hbw, HR.out.le, HR.out.many, HR.out.lo, hbw.stays HR.out.box, HR.out.ok⟩
                have hxl : x.data.toList = (s.data.toList.drop k).take (i - k) := by rw [← hx, ← ByteArray.toList_eq, Lib.extract_toList]
                have hxs : x.size ≤ 1000000 := by
                  have h1 := congrArg List.length hxl
                  have h2 := HS.out
                  rw [List.length_take, List.length_drop, size_list, size_list] at h1
                  omega
                obtain ⟨fn, tmps, assign, body, hy, hR⟩ := HY.out pre ⟨x, hxs⟩ w2 HR2.out.J (by have := HR.out.many; omega)
                have hy : (Instr.yield l #[.string x]).run Tryz.prog w2 = .ok (.round l fn tmps assign body) w2 := hy
                have HN : Hid (∀ B, J (pre ++ [⟨x, hxs⟩]) B → Below w0.heap.size w2 B → B.heap[b]? = w2.heap[b]? → FSt s b w0 J (pre ++ [⟨x, hxs⟩]) none (i + K) B) := Lib.hid (fun B h1 h2 h3 => ⟨h1, Below.trans HR2.out.bel h2, HIK.out, by have := HR.out.many; have := HK1.out; simp; omega, fun k h => (by cases h), h3.trans HR2.out.box, by rw [List.map_append]; show FOk _ (_ ++ [x.data.toList]) _ _; rw [hxl]; exact FOk.wild HC.out hw _ _ _⟩)
                have HX := Lib.hid hxl
                clear hxl HR hile
                clear hb2 hbw)
              refine hR.mono ?_
              rintro e B ⟨rfl, hJ, hbl⟩
              have HN2 := Lib.hid (HN.out B hJ hbl.1 (hbl.2 b rfl))
              clear hJ hbl hR hy
              gi_wp2
              go_roundw
              case rel => exact ⟨pre ++ [⟨x, hxs⟩], none, i + K, rfl, by go_num, HN2⟩
              case measure => simp [intOf]; have := HIK.out; have := HK1.out; omega
          | false =>
            cases st with
            | none =>
              simp only [stV]
              gi_wp2_with (
                refine ⟨trivial, ?_⟩
                gi_at_call 82
                refine (space_in HSB.out HR3.out _ _ HSW1.out).mono ?_
                rintro e w2 ⟨rfl, hb2⟩
                have hbw := HB1.out.trans hb2
                have cb2 : w2.cell? ⟨b, 0, none⟩ = some (.string s) := cell_of_heap (hbw.stays HR.out.box) 0
                have HR2 : Hid (FSt s b w0 J pre _ i w2) := Lib.hid ⟨HJB.out _ _ _ HR.out.J hbw, HR.out.bel.trans hbw, HR.out.le, HR.out.many, HR.out.lo, hbw.stays HR.out.box, HR.out.ok⟩
                have HN : Hid (FSt s b w0 J pre (some i) (i + K) w2) := Lib.hid ⟨HR2.out.J, HR2.out.bel, HIK.out, Nat.le_trans HR.out.many (Nat.le_add_right _ _), fun k h => (by cases h; have := HK1.out; omega), HR2.out.box, FOk.wild HC.out hw _ _ _⟩
                clear hile
                clear hb2 hbw)
              go_roundw
              case rel => exact ⟨pre, some i, i + K, rfl, by go_num, HN⟩
              case measure => simp [intOf]; have := HIK.out; have := HK1.out; omega
            | some k =>
              simp only [stV]
              have hki := HR.out.lo k rfl
              have hk1 : (0 : Int) ≤ (k : Int) := by omega
              gi_wp2_with (
                refine ⟨trivial, ?_⟩
                gi_at_call 82
                refine (space_in HSB.out HR3.out _ _ HSW1.out).mono ?_
                rintro e w2 ⟨rfl, hb2⟩
                have hbw := HB1.out.trans hb2
                have cb2 : w2.cell? ⟨b, 0, none⟩ = some (.string s) := cell_of_heap (hbw.stays HR.out.box) 0
                have HR2 : Hid (FSt s b w0 J pre _ i w2) := Lib.hid ⟨HJB.out _ _ _ HR.out.J hbw, HR.out.bel.trans hbw, HR.out.le, HR.out.many, HR.out.lo, hbw.stays HR.out.box, HR.out.ok⟩
                have HN : Hid (FSt s b w0 J pre (some k) (i + K) w2) := Lib.hid ⟨HR2.out.J, HR2.out.bel, HIK.out, Nat.le_trans HR.out.many (Nat.le_add_right _ _), fun k' h => (by cases h; omega), HR2.out.box, FOk.wild HC.out hw _ _ _⟩
                clear hile
                clear hb2 hbw)
              go_roundw
              case rel => exact ⟨pre, some k, i + K, rfl, by go_num, HN⟩
              case measure => simp [intOf]; have := HIK.out; have := HK1.out; omega
    · obtain rfl : i = s.size := by omega
      have hL : s.data.toList.length = s.size := size_list s
      cases st with
      | none =>
        simp only [stV]
        have HE : Hid (asc s.data.toList → pre.map (fun x => x.1.data.toList) = fieldsG [] s.data.toList) := Lib.hid (fun ha => by
          have := HR.out.ok
          rw [← hL] at this
          exact (this.none_end ha).symm)
        have HJ := Lib.hid HR.out.J
        have HM := Lib.hid HR.out.many
        clear hile hi hL
        gi_wp2
        go_end0
        exact ⟨⟨_, rfl⟩, pre, HE.out, Nat.le_succ_of_le HM.out, HJ.out⟩
      | some k =>
        simp only [stV]
        have hki := HR.out.lo k rfl
        have hk1 : (k : Int) ≤ (s.size : Int) := by omega
        obtain ⟨x, hx⟩ : ∃ x, s.extract k s.size = x := ⟨_, rfl⟩
        have hxl : x.data.toList = (s.data.toList.drop k).take (s.size - k) := by rw [← hx, ← ByteArray.toList_eq, Lib.extract_toList]
        have hxs : x.size ≤ 1000000 := by
          have h1 := congrArg List.length hxl
          have h2 := HS.out
          rw [List.length_take, List.length_drop, size_list, size_list] at h1
          omega
        obtain ⟨fn, tmps, assign, body, hy, hR⟩ := HY.out pre ⟨x, hxs⟩ wr HR.out.J (by have := HR.out.many; omega)
        have hy : (Instr.yield l #[.string x]).run Tryz.prog wr = .ok (.round l fn tmps assign body) wr := hy
        have HE : Hid (asc s.data.toList → (pre ++ [⟨x, hxs⟩] : List Txt).map (fun x => x.1.data.toList) = fieldsG [] s.data.toList) := Lib.hid (fun ha => by
          have := HR.out.ok
          rw [← hL] at this
          rw [this.some_end (by omega) ha, List.map_append, hL, ← hxl]
          rfl)
        have HM := Lib.hid HR.out.many
        clear hile hi hL hxl
        gi_wp2
        refine hR.mono ?_
        rintro e B ⟨rfl, hJ, hbl⟩
        have HJ := Lib.hid hJ
        clear hJ hbl hR hy
        gi_wp2
        go_end0
        exact ⟨⟨_, rfl⟩, pre ++ [⟨x, hxs⟩], HE.out, by have := HM.out; simp; omega, HJ.out⟩
theorem fields_all (n : Nat) (hn : 2 ≤ n) (s : ByteArray) (hs : s.size ≤ 1000000) (b : Nat) (wa w : World) (hwa : Bel wa w) (hS : SpAt wa) (hb : w.heap[b]? = some (.cells #[.string s] 9 (0, 0))) :
    SeqAll Fence.wide n Tryz.prog 80 #[.pointer (some ⟨b, 0, none⟩)] txtV b (fun k => k = b) (fun xs => (asc s.data.toList → xs.map (fun x => x.1.data.toList) = fieldsG [] s.data.toList) ∧ xs.length ≤ s.size + 1) (s.size + 1) wa w := by
  intro l J W hW hJs hJb hY h0
  exact (fields1_in n hn l b s hs wa hS J W (hW.stays hb) (hwa.trans hW) hJb hY h0).mono fun e B ⟨h1, xs, h2, h3, h4⟩ => ⟨h1, xs, ⟨h2, h3⟩, h4⟩
end Go.Proofs.YtbfmlbcjggplgaaGreatDoor
