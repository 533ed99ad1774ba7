/- The branches of items, with the room that each has, as package label lists them. -/
import Derived.Test.YtjjbfeoidceiiaaLBr
namespace Go.Proofs.Ytjjbfeoidceiiaa
open Go.RowKit Rv Lb
set_option linter.unusedVariables false
/-- sizes and places, as rows of numbers -/
def szs (l : List Itm) (g : Nat → Bool) : List Int := (List.range l.length).map fun k => (sz l g k : Int)
theorem szs_len (l : List Itm) (g : Nat → Bool) : (szs l g).length = l.length := by simp [szs]
theorem szs_get {l : List Itm} {g : Nat → Bool} {k : Nat} (h : k < l.length) : (szs l g)[k]? = some (sz l g k : Int) := by
  unfold szs
  rw [List.getElem?_map, List.getElem?_range h]
  rfl
theorem sumAt_place (l : List Itm) (g : Nat → Bool) (k : Nat) (h : k ≤ l.length) : sumAt (szs l g) k = 4 * (place l g k : Int) := by
  induction k with
  | zero => rfl
  | succ k ih =>
    rw [sumAt_succ (szs_get (by omega)), ih (by omega)]
    show _ = 4 * ((place l g k + sz l g k : Nat) : Int)
    push_cast
    omega
def allRight (l : List Itm) : Prop := ∀ x ∈ l, rightX x = true ∧ Itm.wf x
theorem sz_bd {l : List Itm} (h : allRight l) (g : Nat → Bool) (k : Nat) : sz l g k ≤ 4096 := by
  unfold sz
  cases hx : l[k]? with
  | none => simp
  | some x =>
    have := size1_bd (h x (List.mem_of_getElem? hx)).1
    simp only
    split <;> omega
theorem szs_bd {l : List Itm} (h : allRight l) (g : Nat → Bool) : ∀ x ∈ szs l g, 0 ≤ x ∧ x ≤ 4096 := by
  intro x hx
  unfold szs at hx
  rw [List.mem_map] at hx
  obtain ⟨k, _, rfl⟩ := hx
  have := sz_bd h g k
  omega
theorem place_bd {l : List Itm} (h : allRight l) (g : Nat → Bool) (k : Nat) : place l g k ≤ 4096 * k := by
  induction k with
  | zero => simp [place]
  | succ k ih =>
    have := sz_bd h g k
    show place l g k + sz l g k ≤ _
    omega
/-- a branch of the list: its item, its label's, its room -/
structure Br where
  at' : Nat
  to' : Nat
  room : Int
def cells3 (b : Br) : List Value := [.int .i64 b.at', .int .i64 b.to', .int .i64 b.room]
def none' : Nat → Bool := fun _ => false
def brOf (l : List Itm) (j : Nat) : Br := ⟨j, to l j, room l none' j⟩
def brsTo (l : List Itm) (k : Nat) : List Br := ((List.range k).filter (brAt l)).map (brOf l)
theorem brsTo_skip {l : List Itm} {k : Nat} (h : brAt l k = false) : brsTo l (k + 1) = brsTo l k := by
  unfold brsTo
  rw [List.range_succ, List.filter_append]
  simp [h]
theorem brsTo_put {l : List Itm} {k : Nat} (h : brAt l k = true) : brsTo l (k + 1) = brsTo l k ++ [brOf l k] := by
  unfold brsTo
  rw [List.range_succ, List.filter_append]
  simp [h]
theorem brsTo_len (l : List Itm) (k : Nat) : (brsTo l k).length ≤ k := by
  unfold brsTo
  rw [List.length_map]
  have := List.length_filter_le (brAt l) (List.range k)
  simpa using this
abbrev BRow (w : World) (base : Nat) (v : Value) (l : List Br) : Prop := w.ownsRow base 111 3 v l.length (l.flatMap cells3)
theorem info_br : ∃ i : TypeInfo, Try.prog.info? 111 = some i ∧ i.zero = some (.agg #[.int .i64 0, .int .i64 0, .int .i64 0]) ∧ i.size = 3 ∧ i.bytes = 24 := ⟨(Try.prog.info? 111).get (by kernel_rfl), by kernel_rfl, by kernel_rfl, by kernel_rfl, by kernel_rfl⟩
theorem wpList_brow_one {ops : Array Oper} {rest : List Oper} {o : Oper} {a : Act} {w : World} {Q : Exit → Act → World → Prop} (hgd : o.guard = none) (s x : Operand)
    (ho : o.op = .call { callee := .builtin .append, args := #[s, x], argTypes := #[108, 108] }) (base : Nat) (v : Value) (l : List Br) (hs : a.eval s = v) (h : BRow w base v l) (B : Nat) (y : Br) (hx : a.eval x = .slice (some ⟨B, 0, none⟩) 1 1)
    (hc : ∀ j u, (cells3 y)[j]? = some u → w.cell? ⟨B, j, none⟩ = some u) (hlen : l.length + 1 ≤ 1099511627776) (hbase : base ≤ w.heap.size)
    (hK : ∀ v' w', BRow w' base v' (l ++ [y]) → Sav (fun k => v.ownBlock = some k) w w' → v' ≠ .slice none 0 0 → wpList Try.prog ops Q rest (a.put o.dst v') w') : wpList Try.prog ops Q (o :: rest) a w := by
  obtain ⟨i, hi, hz, hsz, hb⟩ := info_br
  obtain ⟨v', w', hrun, h1, h2, h3⟩ := append_sav (P := Try.prog) w base 108 o.type 111 i _ 3 24 Try.underlying108 hi hz hsz hb rfl (by decide) v l.length _ h ⟨B, 0, none⟩ 1 1 (cells3 y) rfl
    (by intro j u hj; rw [Addr.add_lit, Nat.zero_add]; exact hc j u hj) (by intro u hu; simp [cells3] at hu; rcases hu with rfl | rfl | rfl <;> rfl) (by unfold maxLen; omega) (by omega) hbase (Or.inl (by omega))
  have e1 : (l ++ [y]).length = l.length + 1 := by simp
  have e2 : (l ++ [y]).flatMap cells3 = l.flatMap cells3 ++ cells3 y := by simp
  refine wpList_app hgd s x _ ho v _ v' hs hx hrun (hK v' w' ?_ h2 h3)
  unfold BRow
  rw [e1, e2]
  exact h1
/-- the layer as branches finds it -/
structure LayB (w : World) (y : Nat) (l : List Itm) (b o ic PB pc TB : Nat) (S : Value) : Prop where
  lay : w.heap[y]? = some (.cells #[.slice (some ⟨PB, 0, none⟩) (l.length + 1) pc, .slice (some ⟨b, o, none⟩) l.length ic, S, .slice (some ⟨TB, 0, none⟩) l.length l.length] 57 (0, 0))
  items : ItemsAt w b o l
  places : IntsAt w PB 0 (sumsTo (szs l none') l.length)
  tos : IntsAt w TB 0 (tos l l.length)
theorem LayB.both {w w' : World} {y : Nat} {l : List Itm} {b o ic PB pc TB : Nat} {S : Value} (h : LayB w y l b o ic PB pc TB S) (hb : Both w w') : LayB w' y l b o ic PB pc TB S :=
  ⟨(hb.1.block _ (lt_of_heap h.lay)).trans h.lay, h.items.both hb, h.places.both hb, h.tos.both hb⟩
theorem tos_get {l : List Itm} {k : Nat} (h : k < l.length) : (tos l l.length)[k]? = some (to l k : Int) := by
  unfold tos
  rw [List.getElem?_map, List.getElem?_range h]
  simp [h]
theorem new3 (W : World) (t : TypeId) (y : Br) : ∀ j u, (cells3 y)[j]? = some u → (W.alloc (.cells #[.int .i64 y.at', .int .i64 y.to', .int .i64 y.room] t)).cell? ⟨W.heap.size, j, none⟩ = some u := by
  intro j u hj
  rw [← List.getElem?_toArray] at hj
  exact (World.cell?_alloc_new W _ _ j).trans hj
theorem apart_q {B n c i j : Nat} {x y : Int} {w : World} (hi : i < n) (hj : j < n) (hn2 : n ≤ 1099511627776) (hx : w.cell? ⟨B, i, none⟩ = some (.int .i64 x)) (hy : w.cell? ⟨B, j, none⟩ = some (.int .i64 y)) (x1 : 0 ≤ x) (x2 : x ≤ 1099511627776) (y1 : 0 ≤ y) (y2 : y ≤ 1099511627776) (q : Nat) :
    Calls Try.prog 81 #[.slice (some ⟨B, 0, none⟩) n c, .int .i64 i, .int .i64 j] (w.drewN q) fun e w' => e = .returned (.int .i64 (y - x)) ∧ ∃ m, w' = w.drewN m :=
  Calls.quiet_of (apart_any B n c i j x y (w.drewN q) hi hj hn2 hx hy x1 x2 y1 y2)
set_option maxRecDepth 100000 in
set_option maxHeartbeats 4000000 in
theorem branches_any (y b o ic PB pc TB : Nat) (S : Value) (l : List Itm) (w : World) (HL : Hid (LayB w y l b o ic PB pc TB S)) (hlen : l.length ≤ 40000) (HR : Hid (allRight l)) (HT : Hid (∀ k, k < l.length → to l k < l.length)) :
    Calls Try.prog 78 #[.pointer (some ⟨y, 0, none⟩)] w fun e w' => ∃ v, e = .returned v ∧ BRow w' w.heap.size v (brsTo l l.length) ∧ Both w w' := by
  have q1 := cell_of_heap HL.out.lay 1
  simp only [List.getElem?_toArray, List.getElem?_cons_zero, List.getElem?_cons_succ] at q1
  go_enter Try.func78, Try.ntmps78
  go_wp2_with fail
  go_loopw [3, 12] (fun v i wr => ∃ k : Nat, k ≤ l.length ∧ i = .int .i64 k ∧ Hid (Both w wr) ∧ Hid (BRow wr w.heap.size v (brsTo l k))) (fun _ i _ => l.length - (intOf i).toNat)
  case atStart => exact ⟨0, by omega, rfl, Both.refl _, World.ownsRow_nil _ _ _ _⟩
  case round =>
    rename_i wr
    obtain ⟨k, hk, rfl, HB, HV⟩ := hrel
    by_cases hlt : k < l.length
    · obtain ⟨kd, xo, xd, xa, xb, xn, xm, xs, hx⟩ := items_one hlt
      obtain ⟨c0, c1, c2, c3, c4, c5, c6, c7⟩ := (HL.out.items.both HB.out).get hx
      have HX := Lib.hid hx
      clear hx
      cases hb : brAt l k with
      | false =>
        have HS : Hid (brsTo l (k + 1) = brsTo l k) := brsTo_skip hb
        have HBA := Lib.hid hb
        clear hb
        cases hkd : (kd != 3) with
        | true =>
          go_wp2_with fail
          go_roundw
          case rel => exact ⟨k + 1, hlt, by go_num, HB.out.alloc _ _, by rw [HS.out]; exact HV.out.alloc _⟩
          case measure => simp [intOf]; omega
        | false =>
          have hq : isB xo = false := by
            have := HBA.out
            unfold brAt isBr at this
            rw [HX.out] at this
            simpa [show kd = 3 by simpa using hkd] using this
          have HQ := Lib.hid hq
          clear hq
          go_wp2_with (go_at_call 71; ((with_reducible refine (isB_lit HQ.out _).mono ?_); rintro e w' ⟨rfl, rfl⟩))
          go_roundw
          case rel => exact ⟨k + 1, hlt, by go_num, HB.out.alloc _ _, by rw [HS.out]; exact HV.out.alloc _⟩
          case measure => simp [intOf]; omega
      | true =>
        have HS : Hid (brsTo l (k + 1) = brsTo l k ++ [brOf l k]) := brsTo_put hb
        have h3 : kd = 3 ∧ isB xo = true := by
          unfold brAt isBr at hb
          rw [HX.out] at hb
          simpa using hb
        obtain ⟨rfl, hq⟩ := h3
        have HQ := Lib.hid hq
        clear hq hb
        go_upto_region 6 with (go_at_call 71; ((with_reducible refine (isB_lit HQ.out _).mono ?_); rintro e w' ⟨rfl, rfl⟩))
        have HB1 := Lib.hid (HB.out.alloc #[.int .i64 3, .int .i64 xo, .int .i64 xd, .int .i64 xa, .int .i64 xb, .int .i64 xn, .string xs, .int .i64 xm] 26)
        have HV1 : Hid (BRow (wr.alloc (.cells #[.int .i64 3, .int .i64 xo, .int .i64 xd, .int .i64 xa, .int .i64 xb, .int .i64 xn, .string xs, .int .i64 xm] 26)) w.heap.size u3 (brsTo l k)) := HV.out.alloc _
        clear c0 c1 c2 c3 c4 c5 c6 c7 q1
        generalize wr.alloc (.cells #[.int .i64 3, .int .i64 xo, .int .i64 xd, .int .i64 xa, .int .i64 xb, .int .i64 xn, .string xs, .int .i64 xm] 26) = W1 at HB1 HV1 ⊢
        have hl1 := HL.out.both HB1.out
        have y0 := cell_of_heap hl1.lay 0
        have y3 := cell_of_heap hl1.lay 3
        simp only [List.getElem?_toArray, List.getElem?_cons_zero, List.getElem?_cons_succ] at y0 y3
        have ht := hl1.tos.2 k _ (tos_get hlt)
        rw [Nat.zero_add] at ht
        have htl := HT.out k hlt
        have hpk := hl1.places.2 k _ (sumsTo_get _ _ _ (Nat.le_of_lt hlt))
        have hpt := hl1.places.2 (to l k) _ (sumsTo_get _ _ _ (Nat.le_of_lt htl))
        rw [Nat.zero_add, sumAt_place _ _ _ (by omega)] at hpk hpt
        have bk := place_bd HR.out none' k
        have bt := place_bd HR.out none' (to l k)
        have HBR : Hid (brOf l k = ⟨k, to l k, room l none' k⟩) := rfl
        have hroom : room l none' k = if k < to l k then 1023 - ((place l none' (to l k) : Int) - place l none' k) else 1024 + ((place l none' (to l k) : Int) - place l none' k) := rfl
        generalize room l none' k = rm at HBR hroom
        generalize place l none' (to l k) = pt at bt hpt hroom
        generalize place l none' k = pk at bk hpk hroom
        generalize to l k = t at ht htl bt hpt HBR hroom
        have hsum : IntKind.i64.wrap (4096 + (4 * (pt : Int) - 4 * (pk : Int))) = 4096 + (4 * (pt : Int) - 4 * (pk : Int)) := IntWalk.i64_in _ (by constructor <;> omega)
        have hk' : (k : Int) < l.length := by omega
        have hap := @apart_q PB (l.length + 1) pc k t (4 * pk) (4 * pt) W1 (by omega) (by omega) (by omega) hpk hpt (by omega) (by omega) (by omega) (by omega)
        have HAP := Lib.hid hap
        clear hap
        go_quiet ((go_at_call 81; exact HAP.out _))
        have HB2 := Lib.hid (HB1.out.drewN nq)
        have HV2 : Hid (BRow (W1.drewN nq) w.heap.size u3 (brsTo l k)) := ownsRow_sav HV1.out (((Both.refl W1).drewN nq).sav fun _ => False) (fun _ _ => id)
        have y0' : (W1.drewN nq).cell? ⟨y, 0, none⟩ = _ := (((Both.refl W1).drewN nq).cell (p := ⟨y, 0, none⟩) (lt_of_heap hl1.lay)).trans y0
        have y3' : (W1.drewN nq).cell? ⟨y, 3, none⟩ = _ := (((Both.refl W1).drewN nq).cell (p := ⟨y, 3, none⟩) (lt_of_heap hl1.lay)).trans y3
        have ht' : (W1.drewN nq).cell? ⟨TB, k, none⟩ = _ := (((Both.refl W1).drewN nq).cell (p := ⟨TB, k, none⟩) hl1.tos.1).trans ht
        have hpk' : (W1.drewN nq).cell? ⟨PB, k, none⟩ = _ := (((Both.refl W1).drewN nq).cell (p := ⟨PB, k, none⟩) hl1.places.1).trans hpk
        have hpt' : (W1.drewN nq).cell? ⟨PB, t, none⟩ = _ := (((Both.refl W1).drewN nq).cell (p := ⟨PB, t, none⟩) hl1.places.1).trans hpt
        clear y0 y3 ht hpk hpt HAP hl1
        generalize W1.drewN nq = W2 at HB2 HV2 y0' y3' ht' hpk' hpt' ⊢
        have hap := @apart_q PB (l.length + 1) pc k t (4 * pk) (4 * pt) W2 (by omega) (by omega) (by omega) hpk' hpt' (by omega) (by omega) (by omega) (by omega)
        have HAP := Lib.hid hap
        clear hap hpk' hpt' hsum HB HV HB1 HV1
        have hlb := brsTo_len l k
        have HLB := Lib.hid hlb
        clear hlb
        by_cases hto : (k : Int) < t
        · rw [if_pos (by omega)] at hroom
          have hrm : (4094 - (4 * (pt : Int) - 4 * (pk : Int))) / 4 = rm := by omega
          have HRM := Lib.hid hrm
          have hsum : IntKind.i64.wrap (4094 - (4 * (pt : Int) - 4 * (pk : Int))) = 4094 - (4 * (pt : Int) - 4 * (pk : Int)) := IntWalk.i64_in _ (by constructor <;> omega)
          clear hroom hrm
          go_upto_region 8 with (fail)
          go_quiet ((go_at_call 81; exact HAP.out _))
          have HB4 := Lib.hid (HB2.out.drewN nq)
          have HV4 : Hid (BRow (W2.drewN nq) w.heap.size u3 (brsTo l k)) := ownsRow_sav HV2.out (((Both.refl W2).drewN nq).sav fun _ => False) (fun _ _ => id)
          have ly2 : y < W2.heap.size := (World.block_lt_of_cell? W2 ⟨y, 3, none⟩ y3')
          have lt2 : TB < W2.heap.size := (World.block_lt_of_cell? W2 ⟨TB, k, none⟩ ht')
          have z3 : (W2.drewN nq).cell? ⟨y, 3, none⟩ = _ := (((Both.refl W2).drewN nq).cell (p := ⟨y, 3, none⟩) ly2).trans y3'
          have zt : (W2.drewN nq).cell? ⟨TB, k, none⟩ = _ := (((Both.refl W2).drewN nq).cell (p := ⟨TB, k, none⟩) lt2).trans ht'
          clear y0' y3' ht' HAP HV2 HB2
          generalize W2.drewN nq = W3 at HB4 HV4 z3 zt ⊢
          go_wp2_with (at_builtin; refine wpList_brow_one rfl (.tmp 64) (.tmp 76) rfl w.heap.size u3 (brsTo l k) rfl (HV4.out.alloc _) _ ⟨k, t, (4094 - (4 * (pt : Int) - 4 * (pk : Int))) / 4⟩ rfl (new3 _ _ ⟨k, t, _⟩) (by have := HLB.out; omega) (by have := HB4.out.1.size; simp; omega) ?_; intro v' w1 h1 h2 h3)
          have HB3 := Lib.hid (h2.both (HB4.out.alloc _ _) (fun j hj => (HV4.out.lt j hj).1))
          have HV3 : Hid (BRow w1 w.heap.size v' (brsTo l (k + 1))) := by rw [HS.out, HBR.out, ← HRM.out]; exact h1
          clear h1 h2 h3
          go_wp2_with fail
          go_roundw
          case rel => exact ⟨k + 1, hlt, by go_num, HB3.out, HV3.out⟩
          case measure => simp [intOf]; omega
        · rw [if_neg (by omega)] at hroom
          have hrm : (4096 + (4 * (pt : Int) - 4 * (pk : Int))) / 4 = rm := by omega
          have HRM := Lib.hid hrm
          clear hroom hrm
          go_wp2_with (at_builtin; refine wpList_brow_one rfl (.tmp 64) (.tmp 76) rfl w.heap.size u3 (brsTo l k) rfl (HV2.out.alloc _) _ ⟨k, t, (4096 + (4 * (pt : Int) - 4 * (pk : Int))) / 4⟩ rfl (new3 _ _ ⟨k, t, _⟩) (by have := HLB.out; omega) (by have := HB2.out.1.size; simp; omega) ?_; intro v' w1 h1 h2 h3)
          have HB3 := Lib.hid (h2.both (HB2.out.alloc _ _) (fun j hj => (HV2.out.lt j hj).1))
          have HV3 : Hid (BRow w1 w.heap.size v' (brsTo l (k + 1))) := by rw [HS.out, HBR.out, ← HRM.out]; exact h1
          clear h1 h2 h3
          go_wp2_with fail
          go_roundw
          case rel => exact ⟨k + 1, hlt, by go_num, HB3.out, HV3.out⟩
          case measure => simp [intOf]; omega
    · obtain rfl : k = l.length := by omega
      go_wp2_with fail
      go_ret
      exact ⟨_, rfl, HV.out, HB.out⟩
end Go.Proofs.Ytjjbfeoidceiiaa
