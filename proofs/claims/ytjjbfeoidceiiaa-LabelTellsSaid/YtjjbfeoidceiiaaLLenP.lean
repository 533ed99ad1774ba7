/- What a branch that becomes long takes from others: narrow of package label. -/
import Derived.Test.YtjjbfeoidceiiaaLBrs
import Derived.Deep.RegionHeld3
namespace Go.Proofs.Ytjjbfeoidceiiaa
open Go.RowKit Rv Lb
set_option linter.unusedVariables false
theorem flat3_get {bs : List Br} {k : Nat} {b : Br} (h : bs[k]? = some b) (r : Nat) (hr : r < 3) : (bs.flatMap cells3)[k * 3 + r]? = (cells3 b)[r]? := by
  induction bs generalizing k with
  | nil => simp at h
  | cons x t ih =>
    rw [List.flatMap_cons]
    cases k with
    | zero =>
      simp only [List.getElem?_cons_zero, Option.some.injEq] at h
      subst h
      rw [Nat.zero_mul, Nat.zero_add, List.getElem?_append_left (by show r < 3; exact hr)]
    | succ k =>
      rw [List.getElem?_cons_succ] at h
      rw [List.getElem?_append_right (by show 3 ≤ _; omega)]
      have : (k + 1) * 3 + r - (cells3 x).length = k * 3 + r := by show (k + 1) * 3 + r - 3 = _; omega
      rw [this]
      exact ih h
theorem flat3_set {bs : List Br} {k : Nat} {b : Br} (h : bs[k]? = some b) (r : Int) : (bs.flatMap cells3).set (k * 3 + 2) (.int .i64 r) = (bs.set k ⟨b.at', b.to', r⟩).flatMap cells3 := by
  induction bs generalizing k with
  | nil => simp at h
  | cons x t ih =>
    cases k with
    | zero =>
      simp only [List.getElem?_cons_zero, Option.some.injEq] at h
      subst h
      simp [cells3]
    | succ k =>
      rw [List.getElem?_cons_succ] at h
      rw [List.flatMap_cons, List.set_cons_succ, List.flatMap_cons, ← ih h, List.set_append_right _ _ (by show 3 ≤ _; omega)]
      have : (k + 1) * 3 + 2 - (cells3 x).length = k * 3 + 2 := by show (k + 1) * 3 + 2 - 3 = _; omega
      rw [this]
def spansB (b : Br) (a : Nat) : Bool := decide (b.at' < a ∧ a < b.to') || decide (b.to' < a ∧ a < b.at')
def winK (L k i : Nat) : Bool := decide (L - 1024 ≤ i ∧ i < k ∧ i ≤ L + 1024)
def less1 (b : Br) : Br := ⟨b.at', b.to', b.room - 1⟩
structure NrwTo (bs bs' : List Br) (out : List Nat) (a L k : Nat) : Prop where
  len : bs'.length = bs.length
  get : ∀ i b, bs[i]? = some b → bs'[i]? = some (if winK L k i && spansB b a then less1 b else b)
  mem : ∀ i, i ∈ out ↔ ∃ b, bs[i]? = some b ∧ winK L k i = true ∧ spansB b a = true ∧ b.room = 0
  nodup : out.Nodup
theorem NrwTo.start (bs : List Br) (a L : Nat) : NrwTo bs bs [] a L (L - 1024) := by
  have hw : ∀ i, winK L (L - 1024) i = false := fun i => decide_eq_false (by omega)
  refine ⟨rfl, fun i b h => by rw [hw, Bool.false_and]; simpa using h, fun i => ?_, List.nodup_nil⟩
  constructor
  · intro h; cases h
  · rintro ⟨b, _, h, _⟩; rw [hw] at h; cases h
theorem winK_succ {L k i : Nat} (h : i ≠ k) : winK L (k + 1) i = winK L k i := by
  unfold winK
  have : (L - 1024 ≤ i ∧ i < k + 1 ∧ i ≤ L + 1024) ↔ (L - 1024 ≤ i ∧ i < k ∧ i ≤ L + 1024) := by omega
  simp only [this]
theorem winK_self (L k : Nat) : winK L k k = false := decide_eq_false (by omega)
theorem winK_yes {L k : Nat} (h1 : L - 1024 ≤ k) (h2 : k ≤ L + 1024) : winK L (k + 1) k = true := decide_eq_true (by omega)
theorem NrwTo.skip {bs bs' : List Br} {out : List Nat} {a L k : Nat} {b : Br} (h : NrwTo bs bs' out a L k) (hb : bs[k]? = some b) (hs : spansB b a = false) : NrwTo bs bs' out a L (k + 1) := by
  refine ⟨h.len, fun i c hc => ?_, fun i => ?_, h.nodup⟩
  · by_cases e : i = k
    · subst e
      obtain rfl : b = c := Option.some.inj (hb.symm.trans hc)
      have := h.get i b hc
      rw [hs, Bool.and_false] at this ⊢
      exact this
    · rw [winK_succ e]
      exact h.get i c hc
  · rw [h.mem i]
    by_cases e : i = k
    · subst e
      constructor
      · rintro ⟨c, hc, hw, _⟩; rw [winK_self] at hw; cases hw
      · rintro ⟨c, hc, _, hsp, _⟩
        obtain rfl : b = c := Option.some.inj (hb.symm.trans hc)
        rw [hs] at hsp; cases hsp
    · rw [winK_succ e]
theorem NrwTo.less {bs bs' : List Br} {out : List Nat} {a L k : Nat} {b : Br} (h : NrwTo bs bs' out a L k) (hb : bs[k]? = some b) (hs : spansB b a = true) (h1 : L - 1024 ≤ k) (h2 : k ≤ L + 1024) :
    NrwTo bs (bs'.set k (less1 b)) (if b.room = 0 then out ++ [k] else out) a L (k + 1) := by
  have hk : k < bs.length := (List.getElem?_eq_some_iff.1 hb).1
  have hn : k ∉ out := fun c => by
    obtain ⟨_, _, hw, _⟩ := (h.mem k).1 c
    rw [winK_self] at hw
    cases hw
  refine ⟨by rw [List.length_set]; exact h.len, fun i c hc => ?_, fun i => ?_, ?_⟩
  · rw [List.getElem?_set]
    by_cases e : k = i
    · subst e
      obtain rfl : b = c := Option.some.inj (hb.symm.trans hc)
      rw [if_pos rfl, if_pos (by rw [h.len]; exact hk), winK_yes h1 h2, hs]
      rfl
    · rw [if_neg e, winK_succ (Ne.symm e)]
      exact h.get i c hc
  · have hsplit : i ∈ (if b.room = 0 then out ++ [k] else out) ↔ i ∈ out ∨ (b.room = 0 ∧ i = k) := by
      split
      · rename_i hr; simp [hr]
      · rename_i hr; simp [hr]
    rw [hsplit, h.mem i]
    by_cases e : i = k
    · subst e
      constructor
      · rintro (⟨c, hc, hw, _⟩ | ⟨hr, _⟩)
        · rw [winK_self] at hw; cases hw
        · exact ⟨b, hb, winK_yes h1 h2, hs, hr⟩
      · rintro ⟨c, hc, _, hsp, hr⟩
        obtain rfl : b = c := Option.some.inj (hb.symm.trans hc)
        exact Or.inr ⟨hr, rfl⟩
    · rw [winK_succ e]
      constructor
      · rintro (h | ⟨_, h⟩)
        · exact h
        · exact absurd h e
      · exact Or.inl
  · split
    · rw [List.nodup_append]
      exact ⟨h.nodup, by simp, by intro a ha b hb; simp at hb; subst hb; intro e; subst e; exact hn ha⟩
    · exact h.nodup
theorem NrwTo.now {bs bs' : List Br} {out : List Nat} {a L k : Nat} {b : Br} (h : NrwTo bs bs' out a L k) (hb : bs[k]? = some b) : bs'[k]? = some b := by
  have := h.get k b hb
  rw [winK_self] at this
  simpa using this
theorem NrwTo.atL {bs bs' : List Br} {out : List Nat} {a L k j : Nat} {b : Br} (h : NrwTo bs bs' out a L k) (hb : bs[j]? = some b) : ∃ b', bs'[j]? = some b' ∧ b'.at' = b.at' := by
  refine ⟨_, h.get j b hb, ?_⟩
  split <;> rfl
theorem Sav.setCell {S : Nat → Prop} {w w' : World} (h : Sav S w w') {p : Addr} (hp : S p.block ∨ w.heap.size ≤ p.block) (u : Value) : Sav S w (w'.setCell p u) :=
  ⟨h.os, h.tape, h.output, by rw [show (w'.setCell p u).heap.size = w'.heap.size by simp]; exact h.size, fun k hk hn => (heap_setCell_other w' p k u (by rintro rfl; rcases hp with e | e; exact hn e; omega)).trans (h.block k hk hn), fun a => (World.frozen?_setCell _ _ _ _).trans (h.mark a)⟩
theorem Sav.then {S T : Nat → Prop} {a b c : World} (h : Sav S a b) (k : Sav T b c) (ht : ∀ j, T j → S j ∨ a.heap.size ≤ j) : Sav S a c :=
  ⟨k.os.trans h.os, k.tape.trans h.tape, k.output.trans h.output, Nat.le_trans h.size k.size, fun j hj hs => (k.block j (Nat.lt_of_lt_of_le hj h.size) (fun c => by rcases ht j c with e | e; exact hs e; omega)).trans (h.block j hj hs), fun x => (k.mark x).trans (h.mark x)⟩
/-- narrow's loop: the branches' row, the row of those that reach no more -/
structure Nw (w wr : World) (base LB lc : Nat) (v : Value) (bs : List Br) (a L k : Nat) : Prop where
  go : ∃ bs' out, BRow wr base (.slice (some ⟨LB, 0, none⟩) bs.length lc) bs' ∧ IRow wr w.heap.size v (out.map fun (i : Nat) => (i : Int)) ∧ NrwTo bs bs' out a L k ∧ out.length ≤ k
  sav : Sav (fun k => k = LB) w wr
theorem BRow.cells {w : World} {base LB n lc : Nat} {bs : List Br} (h : BRow w base (.slice (some ⟨LB, 0, none⟩) n lc) bs) {k : Nat} {b : Br} (hb : bs[k]? = some b) :
    w.cell? ⟨LB, k * 3, none⟩ = some (.int .i64 b.at') ∧ w.cell? ⟨LB, k * 3 + 1, none⟩ = some (.int .i64 b.to') ∧ w.cell? ⟨LB, k * 3 + 2, none⟩ = some (.int .i64 b.room) ∧ (∀ j, w.frozen? ⟨LB, j, none⟩ = false) ∧ LB < w.heap.size := by
  have hk := (List.getElem?_eq_some_iff.1 hb).1
  obtain rfl : n = bs.length := by
    rcases h.2 with ⟨h', _⟩ | ⟨g', cap', cur, h', _⟩
    · cases h'
    · cases h'; rfl
  refine ⟨?_, ?_, ?_, fun j => World.ownsRow.frozenAt h j, (h.lt LB rfl).2⟩
  · rw [World.ownsRow.cellAt h _ (by omega)]
    exact flat3_get hb 0 (by omega)
  · rw [World.ownsRow.cellAt h _ (by omega), flat3_get hb 1 (by omega)]
    rfl
  · rw [World.ownsRow.cellAt h _ (by omega), flat3_get hb 2 (by omega)]
    rfl
theorem BRow.put {w : World} {base LB n lc : Nat} {bs : List Br} (h : BRow w base (.slice (some ⟨LB, 0, none⟩) n lc) bs) {k : Nat} {b : Br} (hb : bs[k]? = some b) (r : Int) :
    BRow (w.setCell ⟨LB, k * 3 + 2, none⟩ (.int .i64 r)) base (.slice (some ⟨LB, 0, none⟩) n lc) (bs.set k ⟨b.at', b.to', r⟩) := by
  obtain rfl : n = bs.length := by
    rcases h.2 with ⟨h', _⟩ | ⟨g', cap', cur, h', _⟩
    · cases h'
    · cases h'; rfl
  have := (World.ownsRow.stored h (k * 3 + 2) (.int .i64 r)).1
  rw [flat3_set hb] at this
  unfold BRow
  rw [List.length_set]
  exact this
theorem Nw.skip {w wr w1 : World} {base LB lc : Nat} {v : Value} {bs : List Br} {a L k : Nat} {b : Br} (h : Nw w wr base LB lc v bs a L k) (hb : bs[k]? = some b) (hs : spansB b a = false) (h1 : Both wr w1) : Nw w w1 base LB lc v bs a L (k + 1) := by
  obtain ⟨⟨bs', out, hrow, hout, hto, hol⟩, hsav⟩ := h
  exact ⟨⟨bs', out, ownsRow_sav hrow (h1.sav fun _ => False) (fun _ _ => id), ownsRow_sav hout (h1.sav fun _ => False) (fun _ _ => id), hto.skip hb hs, by omega⟩, hsav.trans (h1.sav _)⟩
theorem spansB_any {a' t' i : Nat} {rm : Int} {q : Bool} (h : spansB ⟨a', t', rm⟩ i = q) (w : World) :
    Calls Try.prog 84 #[.agg #[.int .i64 a', .int .i64 t', .int .i64 rm], .int .i64 i] w fun e w' => e = .returned (.bool q) ∧ Both w w' := by
  subst h
  exact spans_any a' t' i rm w
/-- what narrow answers -/
def Nar (bs : List Br) (a L : Nat) (base LB lc : Nat) (w : World) (e : Ending) (w' : World) : Prop :=
  ∃ k v, e = .returned v ∧ Nw w w' base LB lc v bs a L k ∧ (k = bs.length ∨ k = L + 1025)
set_option maxRecDepth 100000 in
set_option maxHeartbeats 4000000 in
theorem narrow_any (base LB lc L : Nat) (bs : List Br) (w : World) (HR : Hid (BRow w base (.slice (some ⟨LB, 0, none⟩) bs.length lc) bs)) (hM : bs.length ≤ 40000) (b0 : Br) (HL : Hid (bs[L]? = some b0)) (hL : L < bs.length)
    (HBD : Hid (∀ b ∈ bs, -4611686018427387904 ≤ b.room ∧ b.room ≤ 1024)) :
    Calls Try.prog 79 #[.slice (some ⟨LB, 0, none⟩) bs.length lc, .int .i64 L] w (Nar bs b0.at' L base LB lc w) := by
  have hstart : Nw w w base LB lc (.slice none 0 0) bs b0.at' L (L - 1024) := ⟨⟨bs, [], HR.out, IRow.nil _ _, NrwTo.start bs _ L, by simp⟩, Sav.refl _ _⟩
  have HS := Lib.hid hstart
  clear hstart
  go_enter Try.func79, Try.ntmps79
  go_wp2_with fail
  all_goals
    go_loopw [5, 6] (fun v i wr => ∃ k : Nat, L - 1024 ≤ k ∧ k ≤ bs.length ∧ k ≤ L + 1025 ∧ i = .int .i64 k ∧ Hid (Nw w wr base LB lc v bs b0.at' L k)) (fun _ i _ => bs.length - (intOf i).toNat)
    case atStart => exact ⟨L - 1024, by omega, by omega, by omega, (by show Value.int .i64 _ = Value.int .i64 _; congr 1; omega), HS.out⟩
    case round =>
      rename_i wr
      obtain ⟨k, hk0, hk, hk2, rfl, HN⟩ := hrel
      by_cases hlt : k < bs.length
      · by_cases hle : k ≤ L + 1024
        · obtain ⟨bs', out, hrow, hout, hto, hol⟩ := HN.out.go
          obtain ⟨b, hb⟩ : ∃ b, bs[k]? = some b := ⟨_, List.getElem?_eq_getElem hlt⟩
          obtain ⟨c0, c1, c2, hfr, hLB⟩ := hrow.cells (hto.now hb)
          obtain ⟨bL, hbL, haL⟩ := hto.atL HL.out
          obtain ⟨d0, _⟩ := hrow.cells hbL
          rw [haL] at d0
          have HROW := Lib.hid hrow
          have HOUT := Lib.hid hout
          have HTO := Lib.hid hto
          have HBK := Lib.hid hb
          obtain ⟨r1, r2⟩ := HBD.out b (List.mem_of_getElem? hb)
          have hkeep : ∀ w', Both wr w' → w'.cell? ⟨LB, k * 3, none⟩ = some (.int .i64 b.at') ∧ w'.cell? ⟨LB, k * 3 + 1, none⟩ = some (.int .i64 b.to') ∧ w'.cell? ⟨LB, k * 3 + 2, none⟩ = some (.int .i64 b.room) ∧ w'.cell? ⟨LB, L * 3, none⟩ = some (.int .i64 b0.at') := fun w' h =>
            ⟨(h.cell (p := ⟨LB, k * 3, none⟩) hLB).trans c0, (h.cell (p := ⟨LB, k * 3 + 1, none⟩) hLB).trans c1, (h.cell (p := ⟨LB, k * 3 + 2, none⟩) hLB).trans c2, (h.cell (p := ⟨LB, L * 3, none⟩) hLB).trans d0⟩
          have HKEEP := Lib.hid hkeep
          have hk' : (k : Int) < bs.length := by omega
          have hL' : (L : Int) < bs.length := by omega
          have hle' : (k : Int) ≤ L + 1024 := by omega
          obtain ⟨ba, bt, br⟩ := b
          simp only at r1 r2 c0 c1 c2
          clear hrow hout hto hb hkeep hbL haL
          cases hsp : spansB ⟨ba, bt, br⟩ b0.at' with
          | false =>
            have HSP := Lib.hid hsp
            clear hsp
            go_upto_region 5 with (fail)
            go_region_held3 (fun w' => w'.cell? ⟨LB, k * 3, none⟩ = some (.int .i64 ba) ∧ w'.cell? ⟨LB, k * 3 + 1, none⟩ = some (.int .i64 bt) ∧ w'.cell? ⟨LB, k * 3 + 2, none⟩ = some (.int .i64 br) ∧ w'.cell? ⟨LB, L * 3, none⟩ = some (.int .i64 b0.at'))
              (first | exact HKEEP.out _ ((Both.refl _).drew.trans hb1) | exact HKEEP.out _ (Both.refl _).drew)
              ((go_at_call 84; refine (spansB_any HSP.out _).mono ?_; rintro e w1 ⟨rfl, hb1⟩))
            have HB1 := Lib.hid ((Both.refl wr).drew.trans hb1)
            clear hb1 c0 c1 c2 d0 hfr
            go_wp2_with fail
            go_roundw
            case rel => exact ⟨k + 1, by omega, hlt, by omega, by go_num, HN.out.skip HBK.out HSP.out HB1.out⟩
            case measure => simp [intOf]; omega
          | true =>
            have HSP := Lib.hid hsp
            clear hsp
            go_upto_region 5 with (fail)
            go_region_held3 (fun w' => w'.cell? ⟨LB, k * 3, none⟩ = some (.int .i64 ba) ∧ w'.cell? ⟨LB, k * 3 + 1, none⟩ = some (.int .i64 bt) ∧ w'.cell? ⟨LB, k * 3 + 2, none⟩ = some (.int .i64 br) ∧ w'.cell? ⟨LB, L * 3, none⟩ = some (.int .i64 b0.at'))
              (first | exact HKEEP.out _ ((Both.refl _).drew.trans hb1) | exact HKEEP.out _ (Both.refl _).drew)
              ((go_at_call 84; refine (spansB_any HSP.out _).mono ?_; rintro e w1 ⟨rfl, hb1⟩))
            have hB1 := (Both.refl wr).drew.trans hb1
            have e2 := (hB1.cell (p := ⟨LB, k * 3 + 2, none⟩) hLB).trans c2
            have ef : w1.frozen? ⟨LB, k * 3 + 2, none⟩ = false := (hB1.2 _).trans (hfr _)
            have hrow1 : BRow w1 base (.slice (some ⟨LB, 0, none⟩) bs.length lc) bs' := ownsRow_sav HROW.out (hB1.sav fun _ => False) (fun _ _ => id)
            have hout1 : IRow w1 w.heap.size u5 (out.map fun (i : Nat) => (i : Int)) := ownsRow_sav HOUT.out (hB1.sav fun _ => False) (fun _ _ => id)
            have hput := hrow1.put (HTO.out.now HBK.out) (br - 1)
            have hss : Sav (fun k => k = LB) w1 (w1.setCell ⟨LB, k * 3 + 2, none⟩ (.int .i64 (br - 1))) := Sav.setCell (S := fun k => k = LB) (p := ⟨LB, k * 3 + 2, none⟩) (Sav.refl _ w1) (Or.inl rfl) _
            have hout2 := ownsRow_sav hout1 hss (fun j hj e => by have h1 := (HOUT.out.lt j hj).1; have h2 := (HR.out.lt LB rfl).2; omega)
            have e3 : (w1.setCell ⟨LB, k * 3 + 2, none⟩ (.int .i64 (br - 1))).cell? ⟨LB, k * 3 + 2, none⟩ = some (.int .i64 (br - 1)) := World.cell?_setCell_same _ _ _ e2
            have hsz3 : w.heap.size ≤ (w1.setCell ⟨LB, k * 3 + 2, none⟩ (.int .i64 (br - 1))).heap.size := by have h1 := HN.out.sav.size; have h2 := hB1.1.size; have h3 := hss.size; omega
            have HSV := Lib.hid ((HN.out.sav.trans (hB1.sav _)).trans hss)
            have HPUT := Lib.hid hput
            have HOUT2 := Lib.hid hout2
            have HLS := Lib.hid (HTO.out.less HBK.out HSP.out hk0 hle)
            clear hb1 hB1 c0 c1 c2 d0 hfr hrow1 hout1 hput hss hout2 HKEEP
            go_upto_region 7 with (fail)
            clear e2 ef
            generalize w1.setCell ⟨LB, k * 3 + 2, none⟩ (.int .i64 (br - 1)) = W3 at e3 HSV HPUT HOUT2 hsz3 ⊢
            by_cases hr0 : br = 0
            · subst hr0
              have hls := HLS.out
              rw [if_pos rfl] at hls
              have HLS2 := Lib.hid hls
              clear hls HLS
              go_wp2_with (at_builtin; refine wpList_irow_one rfl (.tmp 47) (.tmp 49) 31 Try.underlying31 rfl w.heap.size u5 (out.map fun (i : Nat) => (i : Int)) rfl (HOUT2.out.alloc _) _ k rfl (World.cell?_alloc_new _ _ _ 0) (by simp; omega) (by simp; omega) ?_; intro v' w4 h1 h2 h3)
              have hlt0 := (HR.out.lt LB rfl).2
              have hr4 : BRow w4 base (.slice (some ⟨LB, 0, none⟩) bs.length lc) (bs'.set k (less1 ⟨ba, bt, 0⟩)) := ownsRow_sav (HPUT.out.alloc _) h2 (fun j hj e => by have h1 := (HOUT2.out.lt j e).1; have hj2 : LB = j := Option.some.inj hj; omega)
              have hs4 := (HSV.out.alloc _ _).then h2 (fun j hj => Or.inr (HOUT2.out.lt j hj).1)
              have ho4 : IRow w4 w.heap.size v' ((out ++ [k]).map fun (i : Nat) => (i : Int)) := by rw [List.map_append]; exact h1
              have H4 : Hid (Nw w w4 base LB lc v' bs b0.at' L (k + 1)) := ⟨⟨_, _, hr4, ho4, HLS2.out, by simp; omega⟩, hs4⟩
              clear hr4 hs4 ho4 h1 h2 h3
              go_wp2_with fail
              go_roundw
              case rel => exact ⟨k + 1, by omega, hlt, by omega, by go_num, H4.out⟩
              case measure => simp [intOf]; omega
            · have hls := HLS.out
              rw [if_neg hr0] at hls
              have HLS2 := Lib.hid hls
              have ht : (br - 1 == -1) = false := by simp; omega
              clear hls HLS
              go_wp2_with fail
              go_roundw
              case rel => exact ⟨k + 1, by omega, hlt, by omega, by go_num, ⟨⟨_, out, HPUT.out, HOUT2.out, HLS2.out, by omega⟩, HSV.out⟩⟩
              case measure => simp [intOf]; omega
        · obtain rfl : k = L + 1025 := by omega
          have hle' : ¬ ((L + 1025 : Nat) : Int) ≤ L + 1024 := by omega
          have hk' : ((L + 1025 : Nat) : Int) < bs.length := by omega
          go_wp2_with fail
          go_ret
          exact ⟨_, _, rfl, HN.out, Or.inr rfl⟩
      · obtain rfl : k = bs.length := by omega
        go_wp2_with fail
        go_ret
        exact ⟨_, _, rfl, HN.out, Or.inl rfl⟩
end Go.Proofs.Ytjjbfeoidceiiaa
/- Branches become long: what the work list keeps, so that in the end the long ones are the least set that is closed. -/
namespace Go.Proofs.Ytjjbfeoidceiiaa
open Go.RowKit Rv Lb
set_option linter.unusedVariables false
def ats (l : List Itm) : List Nat := (List.range l.length).filter (brAt l)
structure Stat (l : List Itm) (bs : List Br) : Prop where
  at' : bs.map Br.at' = ats l
  to' : ∀ b ∈ bs, b.to' = to l b.at'
theorem Stat.get {l : List Itm} {bs : List Br} (h : Stat l bs) {i : Nat} {b : Br} (hb : bs[i]? = some b) : (ats l)[i]? = some b.at' := by
  rw [← h.at', List.getElem?_map, hb]
  rfl
theorem Stat.br {l : List Itm} {bs : List Br} (h : Stat l bs) {i : Nat} {b : Br} (hb : bs[i]? = some b) : brAt l b.at' = true ∧ b.at' < l.length := by
  have := List.mem_of_getElem? (h.get hb)
  unfold ats at this
  rw [List.mem_filter, List.mem_range] at this
  exact ⟨this.2, this.1⟩
theorem Stat.lt {l : List Itm} {bs : List Br} (h : Stat l bs) {i j : Nat} {b c : Br} (hb : bs[i]? = some b) (hc : bs[j]? = some c) (hij : i < j) : b.at' < c.at' := by
  have hp : (ats l).Pairwise (· < ·) := List.Pairwise.filter _ List.pairwise_lt_range
  obtain ⟨h1, e1⟩ := List.getElem?_eq_some_iff.1 (h.get hb)
  obtain ⟨h2, e2⟩ := List.getElem?_eq_some_iff.1 (h.get hc)
  have := (List.pairwise_iff_getElem.1 hp) i j h1 h2 hij
  rw [e1, e2] at this
  exact this
theorem Stat.ne {l : List Itm} {bs : List Br} (h : Stat l bs) {i j : Nat} {b c : Br} (hb : bs[i]? = some b) (hc : bs[j]? = some c) (hij : i ≠ j) : b.at' ≠ c.at' := by
  rcases Nat.lt_or_gt_of_ne hij with e | e
  · have := h.lt hb hc e; omega
  · have := h.lt hc hb e; omega
theorem Stat.has {l : List Itm} {bs : List Br} (h : Stat l bs) {k : Nat} (hk : brAt l k = true) : ∃ (i : Nat) (b : Br), bs[i]? = some b ∧ b.at' = k := by
  have hl : k < l.length := by
    unfold brAt at hk
    cases e : l[k]? with
    | none => rw [e] at hk; cases hk
    | some x => exact (List.getElem?_eq_some_iff.1 e).1
  have hm : k ∈ bs.map Br.at' := by
    rw [h.at']
    unfold ats
    rw [List.mem_filter, List.mem_range]
    exact ⟨hl, hk⟩
  obtain ⟨b, hb, e⟩ := List.mem_map.1 hm
  obtain ⟨i, hi⟩ := List.mem_iff_getElem?.1 hb
  exact ⟨i, b, hi, e⟩
theorem sz_br {l : List Itm} (g : Nat → Bool) {k : Nat} (hk : brAt l k = true) : 1 ≤ sz l g k := by
  unfold brAt at hk
  unfold sz
  cases e : l[k]? with
  | none => rw [e] at hk; cases hk
  | some x =>
    rw [e] at hk
    simp only at hk ⊢
    have := size1_br hk
    split <;> omega
theorem Stat.dist {l : List Itm} {bs : List Br} (h : Stat l bs) (g : Nat → Bool) {i d : Nat} {b c : Br} (hb : bs[i]? = some b) (hc : bs[i + d]? = some c) : place l g b.at' + d ≤ place l g c.at' := by
  induction d generalizing c with
  | zero =>
    obtain rfl : b = c := Option.some.inj (hb.symm.trans hc)
    omega
  | succ d ih =>
    have hlen : i + d + 1 < bs.length := (List.getElem?_eq_some_iff.1 hc).1
    have hm : bs[i + d]? = some bs[i + d] := List.getElem?_eq_getElem (by omega)
    have h1 := ih hm
    have h2 := h.lt hm hc (by omega)
    have h3 := sz_br g (h.br hm).1
    have h4 := place_mono l g (show (bs[i + d]).at' + 1 ≤ c.at' from h2)
    have h5 : place l g ((bs[i + d]).at' + 1) = place l g (bs[i + d]).at' + sz l g (bs[i + d]).at' := rfl
    omega
/-- who spans one that is far off has no room -/
theorem Stat.far {l : List Itm} {bs : List Br} (h : Stat l bs) (g : Nat → Bool) {i j : Nat} {b c : Br} (hb : bs[i]? = some b) (hc : bs[j]? = some c) (hs : spansB b c.at' = true) (hf : ¬ (j - 1024 ≤ i ∧ i ≤ j + 1024)) : room l g b.at' < 0 := by
  have ht := h.to' b (List.mem_of_getElem? hb)
  unfold spansB at hs
  rw [Bool.or_eq_true, decide_eq_true_eq, decide_eq_true_eq, ht] at hs
  unfold room
  rcases hs with ⟨s1, s2⟩ | ⟨s1, s2⟩
  · rw [if_pos (by omega)]
    have hij : i < j := by
      refine Nat.lt_of_not_le fun hle => ?_
      rcases Nat.lt_or_ge j i with e | e
      · have := h.lt hc hb e; omega
      · obtain rfl : i = j := by omega
        obtain rfl : b = c := Option.some.inj (hb.symm.trans hc)
        omega
    have h1 := h.dist g hb (d := j - i) (by rw [show i + (j - i) = j by omega]; exact hc)
    have h3 := sz_br g (h.br hc).1
    have h4 := place_mono l g (show c.at' + 1 ≤ to l b.at' from s2)
    have h5 : place l g (c.at' + 1) = place l g c.at' + sz l g c.at' := rfl
    omega
  · rw [if_neg (by omega)]
    have hij : j < i := by
      refine Nat.lt_of_not_le fun hle => ?_
      rcases Nat.lt_or_ge i j with e | e
      · have := h.lt hb hc e; omega
      · obtain rfl : i = j := by omega
        obtain rfl : b = c := Option.some.inj (hb.symm.trans hc)
        omega
    have h1 := h.dist g hc (d := i - j) (by rw [show j + (i - j) = i by omega]; exact hb)
    have h4 := place_mono l g (Nat.le_of_lt s1)
    omega
/-- how many branches are not long yet -/
def cnt (l : List Itm) (g : Nat → Bool) : Nat := ((ats l).filter fun k => !g k).length
theorem filter_lt {p q : Nat → Bool} {xs : List Nat} (h : ∀ x ∈ xs, q x = true → p x = true) {y : Nat} (hy : y ∈ xs) (hp : p y = true) (hq : q y = false) : (xs.filter q).length < (xs.filter p).length := by
  induction xs with
  | nil => cases hy
  | cons x t ih =>
    have hle : (t.filter q).length ≤ (t.filter p).length := by
      clear ih hy
      induction t with
      | nil => exact Nat.le_refl _
      | cons z u ih2 =>
        have := ih2 (fun w hw => h w (by simp at hw ⊢; rcases hw with e | e; exact Or.inl e; exact Or.inr (Or.inr e)))
        have hz := h z (by simp)
        rw [List.filter_cons, List.filter_cons]
        cases e1 : q z with
        | false =>
          cases e2 : p z <;> simp <;> omega
        | true =>
          rw [hz e1]
          simp
          omega
    rw [List.filter_cons, List.filter_cons]
    rcases List.mem_cons.1 hy with e | e
    · subst e
      rw [hp, hq]
      simp
      omega
    · have := ih (fun w hw => h w (List.mem_cons_of_mem _ hw)) e
      have hx := h x (by simp)
      cases e1 : q x with
      | false => cases e2 : p x <;> simp <;> omega
      | true =>
        rw [hx e1]
        simp
        omega
structure LenInv (l : List Itm) (bs : List Br) (F : List Nat) (g : Nat → Bool) : Prop where
  stat : Stat l bs
  neg : ∀ (i : Nat) (b : Br), bs[i]? = some b → (b.room < 0 ↔ (i ∈ F ∨ g b.at' = true))
  disj : ∀ (i : Nat) (b : Br), i ∈ F → bs[i]? = some b → g b.at' = false
  nodup : F.Nodup
  rng : ∀ i ∈ F, i < bs.length
  exact' : ∀ (i : Nat) (b : Br), bs[i]? = some b → 0 ≤ b.room → b.room = room l g b.at'
  fin' : ∀ (i : Nat) (b : Br), i ∈ F → bs[i]? = some b → Lb.fin l b.at' = true
  le' : le g (Lb.fin l)
  lo : ∀ (i : Nat) (b : Br), bs[i]? = some b → -1099511627776 + (cnt l g : Int) - bs.length ≤ b.room ∧ b.room ≤ 1024
theorem Stat.len {l : List Itm} {bs : List Br} (h : Stat l bs) : bs.length = (ats l).length := by rw [← h.at', List.length_map]
/-- a branch's label is no branch -/
def toLab (l : List Itm) : Prop := ∀ k, brAt l k = true → brAt l (to l k) = false
theorem le_with {l : List Itm} {g : Nat → Bool} {a : Nat} (h : le g (fin l)) (ha : fin l a = true) : le (with1 g a) (fin l) := by
  intro k hk
  unfold with1 at hk
  rw [Bool.or_eq_true, decide_eq_true_eq] at hk
  rcases hk with e | e
  · exact h k e
  · rw [e]; exact ha
theorem NrwTo.stat {l : List Itm} {bs bs' : List Br} {out : List Nat} {a L k : Nat} (h : NrwTo bs bs' out a L k) (hs : Stat l bs) : Stat l bs' := by
  have hg : ∀ i : Nat, (bs'[i]?).map Br.at' = (bs[i]?).map Br.at' := by
    intro i
    cases hb : bs[i]? with
    | none =>
      rw [List.getElem?_eq_none (by rw [h.len]; exact List.getElem?_eq_none_iff.1 hb)]
    | some b =>
      rw [h.get i b hb]
      split <;> rfl
  refine ⟨?_, ?_⟩
  · rw [← hs.at']
    apply List.ext_getElem?
    intro i
    rw [List.getElem?_map, List.getElem?_map]
    exact hg i
  · intro b' hb'
    obtain ⟨i, hi⟩ := List.mem_iff_getElem?.1 hb'
    have hlt : i < bs.length := by rw [← h.len]; exact (List.getElem?_eq_some_iff.1 hi).1
    have hb : bs[i]? = some bs[i] := List.getElem?_eq_getElem hlt
    have := h.get i _ hb
    rw [hi] at this
    have e := Option.some.inj this
    have ht := hs.to' bs[i] (List.getElem_mem _)
    rw [e]
    split
    · exact ht
    · exact ht
theorem fin_of_no {l : List Itm} {g : Nat → Bool} {k : Nat} (hg : le g (Lb.fin l)) (hb : brAt l k = true) (hr : room l g k < 0) : Lb.fin l k = true := by
  cases e : Lb.fin l k with
  | true => rfl
  | false =>
    have := reach_le hg (fin_closed l k hb e)
    rw [room_reach] at this
    omega
/-- one branch of the list becomes long -/
theorem LenInv.step {l : List Itm} {bs bs' : List Br} {F out : List Nat} {g : Nat → Bool} {j k : Nat} {c : Br} (h : LenInv l bs (F ++ [j]) g) (hc : bs[j]? = some c) (hn : NrwTo bs bs' out c.at' j k) (hk : k = bs.length ∨ k = j + 1025) (hT : toLab l) :
    LenInv l bs' (F ++ out) (with1 g c.at') ∧ cnt l (with1 g c.at') < cnt l g := by
  have hbr := h.stat.br hc
  have hgc : g c.at' = false := h.disj j c (by simp) hc
  have hfc : Lb.fin l c.at' = true := h.fin' j c (by simp) hc
  have hle := le_with h.le' hfc
  have hjF : j ∉ F := by
    have := h.nodup
    rw [List.nodup_append] at this
    intro hj
    exact this.2.2 j hj j (by simp) rfl
  have hFn : F.Nodup := (List.nodup_append.1 h.nodup).1
  have hrF : ∀ (i : Nat) (b : Br), bs[i]? = some b → b.room = 0 → i ∉ F := fun i b hb hr hi => by
    have := (h.neg i b hb).2 (Or.inl (by simp [hi]))
    omega
  have hcnt : cnt l (with1 g c.at') < cnt l g := by
    refine filter_lt (y := c.at') ?_ ?_ ?_ ?_
    · intro x _ hx
      unfold with1 at hx
      cases e : g x with
      | false => rfl
      | true => rw [e] at hx; simp at hx
    · unfold ats
      rw [List.mem_filter, List.mem_range]
      exact ⟨hbr.2, hbr.1⟩
    · rw [hgc]; rfl
    · unfold with1; simp
  have hne : ∀ (i : Nat) (b : Br), bs[i]? = some b → i ≠ j → with1 g c.at' b.at' = g b.at' := fun i b hb hi => by
    unfold with1
    rw [decide_eq_false (h.stat.ne hb hc hi), Bool.or_false]
  have htoc : ∀ (i : Nat) (b : Br), bs[i]? = some b → to l b.at' ≠ c.at' := fun i b hb e => by
    have := hT _ (h.stat.br hb).1
    rw [e, hbr.1] at this
    cases this
  have hsp : ∀ (i : Nat) (b : Br), bs[i]? = some b → spansB b c.at' = spans l b.at' c.at' := fun i b hb => by
    unfold spansB spans
    rw [h.stat.to' b (List.mem_of_getElem? hb)]
  have hwin : ∀ (i : Nat) (b : Br), bs[i]? = some b → spansB b c.at' = true → 0 ≤ b.room → winK j k i = true := by
    intro i b hb hs hr
    refine decide_eq_true ?_
    have hlt := (List.getElem?_eq_some_iff.1 hb).1
    have : j - 1024 ≤ i ∧ i ≤ j + 1024 := by
      refine Classical.byContradiction fun hf => ?_
      have h1 := h.stat.far g hb hc hs hf
      have h2 := h.exact' i b hb hr
      omega
    omega
  -- what is known of each one behind the round
  have key : ∀ (i : Nat) (b' : Br), bs'[i]? = some b' → ∃ b : Br, bs[i]? = some b ∧ b'.at' = b.at' ∧ (b'.room = b.room ∨ b'.room = b.room - 1) ∧
      ((b'.room < 0 ↔ (i ∈ F ++ out ∨ with1 g c.at' b.at' = true)) ∧ (0 ≤ b'.room → b'.room = room l (with1 g c.at') b.at') ∧ (i ∈ out → room l (with1 g c.at') b.at' < 0 ∧ g b.at' = false ∧ i ≠ j)) := by
    intro i b' hb'
    have hlt : i < bs.length := by rw [← hn.len]; exact (List.getElem?_eq_some_iff.1 hb').1
    have hb : bs[i]? = some bs[i] := List.getElem?_eq_getElem hlt
    generalize bs[i] = b at hb
    refine ⟨b, hb, ?_⟩
    have hget := hn.get i b hb
    rw [hb'] at hget
    have e := Option.some.inj hget
    have hmem := hn.mem i
    by_cases hij : i = j
    · subst hij
      obtain rfl : b = c := Option.some.inj (hb.symm.trans hc)
      have hs : spansB b b.at' = false := by unfold spansB; simp
      rw [hs, Bool.and_false] at e
      have e2 : b' = b := by simpa using e
      subst e2
      have hneg := (h.neg i b' hb).2 (Or.inl (by simp))
      have hw : with1 g b'.at' b'.at' = true := by unfold with1; simp
      refine ⟨rfl, Or.inl rfl, ⟨fun _ => Or.inr hw, fun _ => hneg⟩, fun h0 => by omega, fun ho => ?_⟩
      obtain ⟨d, hd, _, hsd, _⟩ := hmem.1 ho
      obtain rfl : b' = d := Option.some.inj (hb.symm.trans hd)
      rw [hs] at hsd
      cases hsd
    · have hw := hne i b hb hij
      have hiF : ∀ P : Prop, (i ∈ F ++ [j] ∨ P) ↔ (i ∈ F ∨ P) := fun P => by simp [hij]
      have hneg := h.neg i b hb
      rw [hiF] at hneg
      have hrw := room_with1 (l := l) (g := g) (j := c.at') (k := b.at') hbr.1 hgc (h.stat.ne hb hc hij) (htoc i b hb)
      rw [← hsp i b hb] at hrw
      have hmem' : i ∈ out ↔ (winK j k i = true ∧ spansB b c.at' = true ∧ b.room = 0) := by
        rw [hmem]
        constructor
        · rintro ⟨d, hd, h1, h2, h3⟩
          obtain rfl : b = d := Option.some.inj (hb.symm.trans hd)
          exact ⟨h1, h2, h3⟩
        · rintro ⟨h1, h2, h3⟩
          exact ⟨b, hb, h1, h2, h3⟩
      rw [hw, List.mem_append]
      by_cases hr : b.room < 0
      · have hno : i ∉ out := fun ho => by have := (hmem'.1 ho).2.2; omega
        have e3 : b'.at' = b.at' ∧ (b'.room = b.room ∨ b'.room = b.room - 1) := by
          rw [e]
          split
          · exact ⟨rfl, Or.inr rfl⟩
          · exact ⟨rfl, Or.inl rfl⟩
        refine ⟨e3.1, e3.2, ⟨fun _ => ?_, fun _ => by omega⟩, fun h0 => by omega, fun ho => absurd ho hno⟩
        rcases hneg.1 hr with h1 | h1
        · exact Or.inl (Or.inl h1)
        · exact Or.inr h1
      · have hnot : ¬ (i ∈ F ∨ g b.at' = true) := fun c2 => hr (hneg.2 c2)
        have hgb : g b.at' = false := by
          cases e4 : g b.at' with
          | false => rfl
          | true => exact absurd (Or.inr e4) hnot
        have hiF' : i ∉ F := fun c2 => hnot (Or.inl c2)
        have hex := h.exact' i b hb (by omega)
        cases hs : spansB b c.at' with
        | false =>
          rw [hs, Bool.and_false] at e
          have e2 : b' = b := by simpa using e
          subst e2
          have hno : i ∉ out := fun ho => by have := (hmem'.1 ho).2.1; rw [hs] at this; cases this
          rw [hs] at hrw
          simp at hrw
          refine ⟨rfl, Or.inl rfl, ⟨fun h0 => absurd h0 hr, fun h0 => ?_⟩, fun _ => by omega, fun ho => absurd ho hno⟩
          rcases h0 with (h1 | h1) | h1
          · exact absurd h1 hiF'
          · exact absurd h1 hno
          · rw [hgb] at h1; cases h1
        | true =>
          have hwi := hwin i b hb hs (by omega)
          rw [hs, hwi] at e
          have e2 : b' = less1 b := by simpa using e
          subst e2
          rw [hs] at hrw
          simp at hrw
          have er : (less1 b).room = b.room - 1 := rfl
          refine ⟨rfl, Or.inr rfl, ⟨fun h0 => ?_, fun h0 => ?_⟩, fun _ => by rw [er]; omega, fun ho => ?_⟩
          · rw [er] at h0
            exact Or.inl (Or.inr (hmem'.2 ⟨hwi, hs, by omega⟩))
          · rcases h0 with (h1 | h1) | h1
            · exact absurd h1 hiF'
            · have := (hmem'.1 h1).2.2
              rw [er]; omega
            · rw [hgb] at h1; cases h1
          · have := (hmem'.1 ho).2.2
            exact ⟨by omega, hgb, hij⟩
  have hst := hn.stat h.stat
  refine ⟨⟨hst, ?_, ?_, ?_, ?_, ?_, ?_, hle, ?_⟩, hcnt⟩
  · intro i b' hb'
    obtain ⟨b, hb, ea, _, k1, _, _⟩ := key i b' hb'
    rw [ea]
    exact k1
  · intro i b' hi hb'
    obtain ⟨b, hb, ea, _, k1, _, k3⟩ := key i b' hb'
    rw [ea]
    rcases List.mem_append.1 hi with h1 | h1
    · have hij : i ≠ j := by rintro rfl; exact hjF h1
      rw [hne i b hb hij]
      exact h.disj i b (by simp [h1]) hb
    · obtain ⟨_, h2, h3⟩ := k3 h1
      rw [hne i b hb h3]
      exact h2
  · rw [List.nodup_append]
    refine ⟨hFn, hn.nodup, ?_⟩
    rintro x hx y hy rfl
    obtain ⟨b, hb, _, _, hr⟩ := (hn.mem x).1 hy
    exact hrF x b hb hr hx
  · intro i hi
    rw [hn.len]
    rcases List.mem_append.1 hi with h1 | h1
    · exact h.rng i (by simp [h1])
    · obtain ⟨b, hb, _⟩ := (hn.mem i).1 h1
      exact (List.getElem?_eq_some_iff.1 hb).1
  · intro i b' hb' hr
    obtain ⟨b, hb, ea, _, _, k2, _⟩ := key i b' hb'
    rw [ea]
    exact k2 hr
  · intro i b' hi hb'
    obtain ⟨b, hb, ea, _, k1, _, k3⟩ := key i b' hb'
    rw [ea]
    rcases List.mem_append.1 hi with h1 | h1
    · exact h.fin' i b (by simp [h1]) hb
    · exact fin_of_no hle (h.stat.br hb).1 (k3 h1).1
  · intro i b' hb'
    obtain ⟨b, hb, ea, er, _⟩ := key i b' hb'
    have := h.lo i b hb
    rw [hn.len]
    omega
/-- in the end the long ones are the least closed set -/
theorem LenInv.done {l : List Itm} {bs : List Br} {g : Nat → Bool} (h : LenInv l bs [] g) : g = Lb.fin l := by
  refine fin_unique (fun k hk hg => ?_) h.le'
  obtain ⟨i, b, hb, rfl⟩ := h.stat.has hk
  rw [room_reach]
  have hr : ¬ b.room < 0 := fun c => by
    rcases (h.neg i b hb).1 c with e | e
    · cases e
    · rw [hg] at e; cases e
  rw [← h.exact' i b hb (by omega)]
  omega
end Go.Proofs.Ytjjbfeoidceiiaa
