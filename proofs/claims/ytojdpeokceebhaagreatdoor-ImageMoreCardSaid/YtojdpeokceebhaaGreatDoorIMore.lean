/- With a word more, and a symbol at its end, all symbols are where they were: the law ImageMore, walked. -/
import Derived.Test.YtojdpeokceebhaaGreatDoorIFit
import Derived.Test.YtojdpeokceebhaaGreatDoorIAwk2
import Derived.Test.YtojdpeokceebhaaGreatDoorIFind
import Derived.Test.YtojdpeokceebhaaGreatDoorIMoreP
import Derived.Test.YtojdpeokceebhaaGreatDoorIInvW
import Derived.Test.YtojdpeokceebhaaGreatDoorIBackP
import Derived.Deep.LoopGhost
namespace Go.Proofs.YtojdpeokceebhaaGreatDoor
open Go.RowKit Im
set_option linter.unusedVariables false
set_option linter.unusedSimpArgs false
def m3F (wp sp : Option Addr) (wc sc : Nat) (raw : Img) (wv : Int) (bx b6 : Nat) (p q : Option Addr) (c d : Nat) (m : Img) (t16 t17 t18 t19 t20 t21 t22 t23 t24 t25 t26 t27 t28 t29 t30 t31 t32 t33 t34 t35 t36 t7 : Value) : Act := { tmps := #[imgV wp sp wc sc raw, .int .i64 wv, .pointer (some ⟨bx, 0, none⟩), undef, .bool false, .bool true, .pointer (some ⟨b6, 0, none⟩), t7, undef, undef, undef, undef, undef, .bool true, .agg #[.slice wp raw.words.length wc, .int .i64 raw.mem, .slice sp raw.syms.length sc], imgV p q c d m, t16, t17, t18, t19, t20, t21, t22, t23, t24, t25, t26, t27, t28, t29, t30, t31, t32, t33, t34, t35, t36, undef, undef, undef, undef, undef, undef, undef, undef, undef, undef, undef, undef, undef, undef, undef, undef, undef, undef, undef, undef, undef, undef, undef, undef, undef, undef, undef, undef, undef, undef, undef, undef, undef, undef, undef, undef, undef, undef, undef, undef, undef, undef, undef, undef, undef, undef, undef, undef, undef, undef, undef, undef, undef, undef, undef, undef, undef, undef, undef, undef, undef, undef, undef, undef, undef, undef, undef, undef, undef], defers := [] }
/-- what the rows made so far hold -/
structure MW (l : Array Bool) (base : Nat) (m : Img) (y : Int) (t7 t18 t21 t22 t27 t34 t35 : Value) (w' : World) : Prop where
  r18 : l[2]? = some true → l[6]? = some false → ERow icell 3 1 w' base t18 m.words
  b21 : l[5]? = some true → l[6]? = some false → ∃ B, t21 = .slice (some ⟨B, 0, none⟩) 1 1 ∧ w'.heap[B]? = some (.cells #[.int .i64 y] 3 (0, 0))
  r22 : l[6]? = some true → ERow icell 3 1 w' base t22 (m.words ++ [y])
  r27 : l[11]? = some true → l[19]? = some false → ERow scell 45 2 w' base t27 m.syms
  b34 : l[18]? = some true → l[19]? = some false → ∃ B, t34 = .slice (some ⟨B, 0, none⟩) 1 1 ∧ w'.heap[B]? = some (.cells #[.string tl3, .int .i64 (4 * ((m.words.length : Int) + 1))] 45 (0, 0))
  r35 : l[19]? = some true → ERow scell 45 2 w' base t35 (m.syms ++ [⟨tl3, 4 * ((m.words.length : Int) + 1)⟩])
  b7 : l[21]? = some true → ∃ B, t7 = .pointer (some ⟨B, 0, none⟩) ∧ w'.heap[B]? = some (.cells #[.slice none 0 0, .int .i64 0, .slice none 0 0] 25 (0, 0)) ∧ base ≤ B
/-- an own row's block is no block of another type -/
theorem own_blk {α : Type} {enc : α → List Value} {t t' : TypeId} {k : Nat} {W : World} {base n c : Nat} {p : Option Addr} {l : List α} (h : ERow enc t k W base (.slice p n c) l) {g : Nat} {cs : Array Value} {fr : Nat × Nat} (hg : W.heap[g]? = some (.cells cs t' fr)) (ht : t ≠ t') : ∀ q, p = some q → q.block ≠ g := by
  intro q hq e
  subst hq
  exact own_ne h hg ht (by simp [Value.ownBlock, e])
theorem MW.bel {l : Array Bool} {base : Nat} {m : Img} {y : Int} {t7 t18 t21 t22 t27 t34 t35 : Value} {w w' : World} (h : MW l base m y t7 t18 t21 t22 t27 t34 t35 w) (hb : Bel w w') : MW l base m y t7 t18 t21 t22 t27 t34 t35 w' :=
  ⟨fun a b => (h.r18 a b).bel hb, fun a b => (by obtain ⟨B, e1, e2⟩ := h.b21 a b; exact ⟨B, e1, hb.stays e2⟩), fun a => (h.r22 a).bel hb, fun a b => (h.r27 a b).bel hb, fun a b => (by obtain ⟨B, e1, e2⟩ := h.b34 a b; exact ⟨B, e1, hb.stays e2⟩), fun a => (h.r35 a).bel hb, fun a => (by obtain ⟨B, e1, e2, e3⟩ := h.b7 a; exact ⟨B, e1, hb.stays e2, e3⟩)⟩
/-- the image that the law makes of another one lies in its box -/
def M3Fin (m : Img) (y : Int) (t7 : Value) (w' : World) : Prop := ∃ B p2 c2 q2 d2, t7 = .pointer (some ⟨B, 0, none⟩) ∧ w'.heap[B]? = some (.cells (boxV p2 q2 c2 d2 (moreV m y)) 25 (0, 0)) ∧ EncAt icell 1 w' p2 (moreV m y).words ∧ EncAt scell 2 w' q2 (moreV m y).syms
/-- what a round reads -/
def S7 (B b6 b o k : Nat) (p2 q2 : Option Addr) (c2 d2 d : Nat) (m : Img) (y : Int) (nm : ByteArray) (pl : Int) (W : World) : Prop := W.cell? ⟨B, 0, none⟩ = some (.slice p2 (moreV m y).words.length c2) ∧ W.cell? ⟨B, 1, none⟩ = some (.int .i64 (moreV m y).mem) ∧ W.cell? ⟨B, 2, none⟩ = some (.slice q2 (moreV m y).syms.length d2) ∧ W.cell? ⟨b6, 2, none⟩ = some (.slice (some ⟨b, o, none⟩) m.syms.length d) ∧ W.cell? ⟨b, o + k * 2, none⟩ = some (.string nm) ∧ W.cell? ⟨b, o + k * 2 + 1, none⟩ = some (.int .i64 pl)
/-- what the last line reads -/
def S11 (B b6 : Nat) (p2 q2 : Option Addr) (c2 d2 : Nat) (p q : Option Addr) (c d : Nat) (m : Img) (y : Int) (W : World) : Prop := W.cell? ⟨B, 0, none⟩ = some (.slice p2 (moreV m y).words.length c2) ∧ W.cell? ⟨B, 1, none⟩ = some (.int .i64 (moreV m y).mem) ∧ W.cell? ⟨B, 2, none⟩ = some (.slice q2 (moreV m y).syms.length d2) ∧ W.cell? ⟨b6, 0, none⟩ = some (.slice p m.words.length c) ∧ W.cell? ⟨b6, 1, none⟩ = some (.int .i64 m.mem) ∧ W.cell? ⟨b6, 2, none⟩ = some (.slice q m.syms.length d)
/-- an image that may be, by its two rows -/
theorem img_of {m : Img} {w : World} {p q : Option Addr} (h : right m = true) (hw : EncAt icell 1 w p m.words) (hs : EncAt scell 2 w q m.syms) : ImgAt w p q m := by
  obtain ⟨g1, g2, g3, g4, g5, g6⟩ := right_parts h
  refine ⟨hw, hs, fun x hx => ?_, fun x hx => ?_, by omega, by omega, by omega⟩
  · have := of_decide_eq_true (g5 x hx)
    omega
  · obtain ⟨h1, h2⟩ := right_name h hx
    have h3 := (lab_size h1).2
    have h4 := of_decide_eq_true h2
    unfold maxLen
    omega
structure M3 (wp sp : Option Addr) (wc sc : Nat) (raw : Img) (wv : Int) (bx b6 : Nat) (p q : Option Addr) (c d : Nat) (m : Img) (y : Int) (W0 : World) (l : Array Bool) (a : Act) (w' : World) : Prop where
  bel : Bel W0 w'
  frame : ∃ t16 t17 t18 t19 t20 t21 t22 t23 t24 t25 t26 t27 t28 t29 t30 t31 t32 t33 t34 t35 t36 t7, a = m3F wp sp wc sc raw wv bx b6 p q c d m t16 t17 t18 t19 t20 t21 t22 t23 t24 t25 t26 t27 t28 t29 t30 t31 t32 t33 t34 t35 t36 t7 ∧ (l[0]? = some true → t16 = .pointer (some ⟨b6, 0, none⟩)) ∧ (l[1]? = some true → t17 = .slice p m.words.length c) ∧ (l[3]? = some true → t19 = .int .i64 wv) ∧ (l[4]? = some true → t20 = .int .i64 y) ∧ (l[7]? = some true → t23 = .pointer (some ⟨b6, 1, none⟩)) ∧ (l[8]? = some true → t24 = .int .i64 m.mem) ∧ (l[9]? = some true → t25 = .pointer (some ⟨b6, 2, none⟩)) ∧ (l[10]? = some true → t26 = .slice q m.syms.length d) ∧ (l[12]? = some true → t28 = .pointer (some ⟨b6, 0, none⟩)) ∧ (l[13]? = some true → t29 = .slice p m.words.length c) ∧ (l[14]? = some true → t30 = .int .i64 (m.words.length : Int)) ∧ (l[15]? = some true → t31 = .int .i64 ((m.words.length : Int) + 1)) ∧ (l[16]? = some true → t32 = .int .i64 (4 * ((m.words.length : Int) + 1))) ∧ (l[17]? = some true → t33 = .agg #[.string tl3, .int .i64 (4 * ((m.words.length : Int) + 1))]) ∧ (l[20]? = some true → t36 = .agg #[t22, .int .i64 m.mem, t35]) ∧
    (l[22]? = some false → MW l W0.heap.size m y t7 t18 t21 t22 t27 t34 t35 w') ∧ (l[22]? = some true → M3Fin m y t7 w')
theorem app_none (P : Program) (t e : TypeId) (i : TypeInfo) (ht : P.underlying t = some (.slice e)) (hi : P.info? e = some i) (w : World) : (Builtin.append_ #[t, t] t #[.slice none 0 0, .slice none 0 0]).run P w = .ok (.slice none 0 0) w := by
  simp [Builtin.append_, run_underlying ht, sizeOf, typeInfo, hi, Builtin.lenOf, run_firstCells_none]
set_option maxRecDepth 100000 in
set_option maxHeartbeats 16000000 in
theorem imageMore_any {wp sp : Option Addr} {wc sc : Nat} {raw : Img} (wv : Int) (w : World) (hi : inInt wv) (H : Hid (ImgAt w wp sp raw)) (hL : LibAt w) :
    Calls Tryz.prog 9 #[imgV wp sp wc sc raw, .int .i64 wv] w fun e w' => e = .returned (.bool true) ∧ Bel w w' := by
  have HL := Lib.hid hL
  have HWV := Lib.hid hi
  obtain ⟨y, hy⟩ : ∃ y, pick wv 4294967296 = y := ⟨_, rfl⟩
  obtain ⟨y1, y2⟩ := pick_bd wv (n := 4294967296) (by decide)
  rw [hy] at y1 y2
  have HPV := Lib.hid hy
  have HY := Lib.hid (⟨y1, y2⟩ : _ ∧ _)
  clear hL hi hy y1 y2
  go_enter Tryz.func9, Tryz.ntmps9
  go_wp2_with fail
  have hb0 := (Bel.refl w).alloc (boxV wp sp wc sc raw) 25
  have hx0 := heap_alloc_new w (.cells (boxV wp sp wc sc raw) 25)
  generalize w.alloc (.cells (boxV wp sp wc sc raw) 25) = W1 at hb0 hx0 ⊢
  generalize w.heap.size = bx at hx0 ⊢
  have HB := Lib.hid hb0
  have HX0 := Lib.hid hx0
  clear hb0 hx0
  refine (awake_any _ (HL.out.bel HB.out)).mono ?_
  rintro e w1 ⟨rfl, hb⟩
  have HB := Lib.hid (HB.out.trans hb)
  have HX0 := Lib.hid (hb.stays HX0.out)
  clear hb
  have c0 : w1.cell? ⟨bx, 0, none⟩ = some (.slice wp raw.words.length wc) := cell_of_heap HX0.out 0
  have c1 : w1.cell? ⟨bx, 1, none⟩ = some (.int .i64 raw.mem) := cell_of_heap HX0.out 1
  have c2 : w1.cell? ⟨bx, 2, none⟩ = some (.slice sp raw.syms.length sc) := cell_of_heap HX0.out 2
  go_wp2_with fail
  refine (fit_own (wp := wp) (sp := sp) (wc := wc) (sc := sc) _ (Lib.hid (H.out.bel HB.out))).mono ?_
  rintro e w2 ⟨hb, p, q, c, d, rfl, hI, hEW, hES⟩
  have HB := Lib.hid (HB.out.trans hb)
  clear hb c0 c1 c2
  have hr := fit_right raw
  have hles := fit_less raw
  have hlw : (fitV raw).words.length ≤ 1000 := by show (fitWords raw (fitLen raw)).length ≤ 1000; rw [fitWords_len]; unfold fitLen; omega
  have hls : (fitV raw).syms.length ≤ 999 := Nat.le_trans (fitSyms_len raw (fitLen raw) 8) (by decide)
  generalize fitV raw = m at hI hEW hES hr hles hlw hls ⊢
  have HI := Lib.hid hI
  have HR := Lib.hid hr
  have HLE := Lib.hid hles
  have HLW : Hid (m.words.length ≤ 1000000) := Lib.hid (by omega)
  have HLW2 : Hid (m.words.length ≤ 65535) := Lib.hid (by omega)
  have HLS : Hid (m.syms.length ≤ 1000000) := Lib.hid (by omega)
  have HLS2 : Hid (m.syms.length ≤ 999) := Lib.hid (by omega)
  have HEW := Lib.hid hEW
  have HES := Lib.hid hES
  clear hI hEW hES hr hles hlw hls
  go_wp2_with fail
  have hb3 := (Bel.refl w2).alloc (boxV p q c d m) 25
  have hx3 := heap_alloc_new w2 (.cells (boxV p q c d m) 25)
  generalize w2.alloc (.cells (boxV p q c d m) 25) = W3 at hb3 hx3 ⊢
  generalize w2.heap.size = b6 at hx3 ⊢
  have HI := Lib.hid (HI.out.bel hb3)
  have HEW := Lib.hid (HEW.out.bel hb3)
  have HES := Lib.hid (HES.out.bel hb3)
  have HB := Lib.hid (HB.out.trans hb3)
  have HX6 := Lib.hid hx3
  clear hb3 hx3
  obtain ⟨W0, hW0⟩ : ∃ W0, W3.drew = W0 := ⟨_, rfl⟩
  have hWd : Bel W3 W0 := by rw [← hW0]; exact (Bel.refl W3).drew
  have HX6 := Lib.hid (hWd.stays HX6.out)
  have HI0 := Lib.hid (HI.out.bel hWd)
  have HA18 : Hid (∀ w', Bel W0 w' → ∃ v' w2, (Builtin.append_ #[22, 22] 22 #[.slice none 0 0, .slice p m.words.length c]).run Tryz.prog w' = .ok v' w2 ∧ ERow icell 3 1 w2 W0.heap.size v' m.words ∧ Bel w' w2) := Lib.hid (fun w' hb => by
    obtain ⟨i, hi, hz, hs, hby⟩ := info_int
    rcases HEW.out.2 with ⟨hn, hl⟩ | ⟨g, cap, cur, hv, _⟩
    · injection hn with e1 e2 e3
      have hm : m.words = [] := List.length_eq_zero_iff.1 e2
      rw [e1, e2, e3, hm]
      exact ⟨_, w', app_none _ _ _ i Tryz.underlying22 hi w', ERow.nil _ _ _ _ _, Bel.refl _⟩
    · injection hv with e1 e2 e3
      have := clone_row (P := Tryz.prog) (a := ⟨g, 0, none⟩) (c := c) (enc := icell) (k := 1) Tryz.underlying22 hi hz hs hby rfl (by decide) (fun _ => rfl) (fun x u hu => by simp [icell] at hu; subst hu; rfl) (by decide) (l := m.words) (w := w') (by rw [← e1]; exact (HI0.out.words.bel hb)) HLW.out hb.size
      rw [e1]
      exact this)
  have HA27 : Hid (∀ w', Bel W0 w' → ∃ v' w2, (Builtin.append_ #[23, 23] 23 #[.slice none 0 0, .slice q m.syms.length d]).run Tryz.prog w' = .ok v' w2 ∧ ERow scell 45 2 w2 W0.heap.size v' m.syms ∧ Bel w' w2) := Lib.hid (fun w' hb => by
    obtain ⟨i, hi, hz, hs, hby⟩ := info_sym
    rcases HES.out.2 with ⟨hn, hl⟩ | ⟨g, cap, cur, hv, _⟩
    · injection hn with e1 e2 e3
      have hm : m.syms = [] := List.length_eq_zero_iff.1 e2
      rw [e1, e2, e3, hm]
      exact ⟨_, w', app_none _ _ _ i Tryz.underlying23 hi w', ERow.nil _ _ _ _ _, Bel.refl _⟩
    · injection hv with e1 e2 e3
      have := clone_row (P := Tryz.prog) (a := ⟨g, 0, none⟩) (c := d) (enc := scell) (k := 2) Tryz.underlying23 hi hz hs hby rfl (by decide) (fun _ => rfl) (fun x u hu => by simp [scell] at hu; rcases hu with rfl | rfl <;> rfl) (by decide) (l := m.syms) (w := w') (by rw [← e1]; exact (HI0.out.syms.bel hb)) HLS.out hb.size
      rw [e1]
      exact this)
  have mixed : Tryz.prog.follows .mixedOrders = true := by kernel_rfl
  refine region_invW mixed (by kernel_rfl) (M3 wp sp wc sc raw wv bx b6 p q c d m y W0) ?step ?fin ?start
  case start =>
    rw [hW0]
    refine ⟨Bel.refl _, _, _, _, _, _, _, _, _, _, _, _, _, _, _, _, _, _, _, _, _, _, _, rfl, ?_⟩
    refine ⟨fun h => ?_, fun h => ?_, fun h => ?_, fun h => ?_, fun h => ?_, fun h => ?_, fun h => ?_, fun h => ?_, fun h => ?_, fun h => ?_, fun h => ?_, fun h => ?_, fun h => ?_, fun h => ?_, fun h => ?_, fun _ => ⟨fun h => ?_, fun h => ?_, fun h => ?_, fun h => ?_, fun h => ?_, fun h => ?_, fun h => ?_⟩, fun h => ?_⟩ <;> simp at h
  case fin =>
    intro l a w' hall hI
    obtain ⟨t16, t17, t18, t19, t20, t21, t22, t23, t24, t25, t26, t27, t28, t29, t30, t31, t32, t33, t34, t35, t36, t7, rfl, f0, f1, f3, f4, f7, f8, f9, f10, f12, f13, f14, f15, f16, f17, f20, fM, fF⟩ := hI.frame
    obtain rfl := f0 (hall 0 (by decide))
    obtain rfl := f1 (hall 1 (by decide))
    obtain rfl := f3 (hall 3 (by decide))
    obtain rfl := f4 (hall 4 (by decide))
    obtain rfl := f7 (hall 7 (by decide))
    obtain rfl := f8 (hall 8 (by decide))
    obtain rfl := f9 (hall 9 (by decide))
    obtain rfl := f10 (hall 10 (by decide))
    obtain rfl := f12 (hall 12 (by decide))
    obtain rfl := f13 (hall 13 (by decide))
    obtain rfl := f14 (hall 14 (by decide))
    obtain rfl := f15 (hall 15 (by decide))
    obtain rfl := f16 (hall 16 (by decide))
    obtain rfl := f17 (hall 17 (by decide))
    obtain rfl := f20 (hall 20 (by decide))
    obtain ⟨B, p2, c2, q2, d2, rfl, hB, hw2, hs2⟩ := fF (hall 22 (by decide))
    have hrn : right (moreV m y) = true := more_right HR.out HLE.out HLW2.out HLS2.out HY.out.1 HY.out.2
    have HRN := Lib.hid hrn
    have HBN := Lib.hid hB
    have HN := Lib.hid (img_of hrn hw2 hs2)
    have HB := Lib.hid ((HB.out.trans hWd).trans hI.bel)
    have HI := Lib.hid (HI0.out.bel hI.bel)
    have HX6 := Lib.hid (hI.bel.stays HX6.out)
    clear hrn hB hw2 hs2 hI hall fM fF HA18 HA27 HX0 HEW HES
    unfold m3F
    clear hW0 hWd HI0
    go_wp2_with fail
    go_loopw [8] (fun i wr => ∃ k : Nat, k ≤ m.syms.length ∧ i = .int .i64 k ∧ Hid (Bel w' wr)) (fun i _ => m.syms.length - (intOf i).toNat)
    case atStart => exact ⟨0, Nat.zero_le _, rfl, Lib.hid (Bel.refl _)⟩
    case round =>
    obtain ⟨k, hk, rfl, HA⟩ := hrel
    have hml : m.syms.length ≤ 999 := HLS2.out
    by_cases hkl : k < m.syms.length
    · obtain ⟨⟨nm, pl⟩, hx⟩ : ∃ x, m.syms[k]? = some x := ⟨_, List.getElem?_eq_getElem hkl⟩
      obtain ⟨b, o, hsp, hbl, e1, e2⟩ := SymsQ.get (HI.out.syms.bel HA.out) hx
      have hkl' : (k : Int) < (m.syms.length : Int) := by omega
      have hk0 : (0 : Int) ≤ (k : Int) := by omega
      have HLT : Hid (k + 1 ≤ m.syms.length) := Lib.hid hkl
      have HXN : Hid ((moreV m y).syms[k]? = some ⟨nm, pl⟩) := Lib.hid (by unfold moreV; rw [List.getElem?_append_left hkl]; exact hx)
      have HS : Hid (∀ W, Bel wr W → S7 B b6 b o k p2 q2 c2 d2 d m y nm pl W) := Lib.hid (fun W hb => by
        obtain ⟨b', o', hsp', _, f1, f2⟩ := SymsQ.get (HI.out.syms.bel (HA.out.trans hb)) hx
        obtain ⟨rfl, rfl⟩ : b = b' ∧ o = o' := by rw [hsp] at hsp'; simpa using hsp'
        have hg := (HA.out.trans hb).stays HBN.out
        have hg6 := (HA.out.trans hb).stays HX6.out
        refine ⟨cell_of_heap hg 0, cell_of_heap hg 1, cell_of_heap hg 2, ?_, f1, f2⟩
        rw [← hsp]
        exact cell_of_heap hg6 2)
      have q6 : wr.cell? ⟨b6, 2, none⟩ = some (.slice (some ⟨b, o, none⟩) m.syms.length d) := (HS.out wr (Bel.refl _)).2.2.2.1
      subst hsp
      clear hx hbl e1 e2 hkl hk
      go_wp2_with fail
      clear q6
      refine wp_region_held_drew (S := S7 B b6 b o k p2 q2 c2 d2 d m y nm pl) (by kernel_rfl) (HS.out _ (Bel.refl _).drew) (fun hS => ?_)
      refine takeD 44 (i := 0) (v := ?v1) rfl rfl (by kernel_rfl) (by kernel_rfl) (by kernel_rfl) (fun _ _ _ h => h) (by kernel_rfl) ?hy1 hS ?rest1
      case hy1 => (intro w0 hSw; obtain ⟨s0, s1, s2, s3, s4, s5⟩ := hSw; first | (go_simp; done) | (go_simp; with_reducible rfl))
      simp only [List.setIfInBounds_toArray, List.set_cons_zero, List.set_cons_succ]
      refine takeD 45 (i := 1) (v := ?v2) rfl rfl (by kernel_rfl) (by kernel_rfl) (by kernel_rfl) (fun _ _ _ h => h) (by kernel_rfl) ?hy2 hS ?rest2
      case hy2 => (intro w0 hSw; obtain ⟨s0, s1, s2, s3, s4, s5⟩ := hSw; first | (go_simp; done) | (go_simp; with_reducible rfl))
      simp only [List.setIfInBounds_toArray, List.set_cons_zero, List.set_cons_succ]
      refine takeD 46 (i := 2) (v := ?v3) rfl rfl (by kernel_rfl) (by kernel_rfl) (by kernel_rfl) (fun _ _ _ h => h) (by kernel_rfl) ?hy3 hS ?rest3
      case hy3 => (intro w0 hSw; obtain ⟨s0, s1, s2, s3, s4, s5⟩ := hSw; first | (go_simp; done) | (go_simp; with_reducible rfl))
      simp only [List.setIfInBounds_toArray, List.set_cons_zero, List.set_cons_succ]
      refine takeD 47 (i := 3) (v := ?v4) rfl rfl (by kernel_rfl) (by kernel_rfl) (by kernel_rfl) (fun _ _ _ h => h) (by kernel_rfl) ?hy4 hS ?rest4
      case hy4 => (intro w0 hSw; obtain ⟨s0, s1, s2, s3, s4, s5⟩ := hSw; first | (go_simp; done) | (go_simp; with_reducible rfl))
      simp only [List.setIfInBounds_toArray, List.set_cons_zero, List.set_cons_succ]
      refine takeD 48 (i := 4) (v := ?v5) rfl rfl (by kernel_rfl) (by kernel_rfl) (by kernel_rfl) (fun _ _ _ h => h) (by kernel_rfl) ?hy5 hS ?rest5
      case hy5 => (intro w0 hSw; obtain ⟨s0, s1, s2, s3, s4, s5⟩ := hSw; first | (go_simp; done) | (go_simp; with_reducible rfl))
      simp only [List.setIfInBounds_toArray, List.set_cons_zero, List.set_cons_succ]
      refine takeD 49 (i := 5) (v := ?v6) rfl rfl (by kernel_rfl) (by kernel_rfl) (by kernel_rfl) (fun _ _ _ h => h) (by kernel_rfl) ?hy6 hS ?rest6
      case hy6 => (intro w0 hSw; obtain ⟨s0, s1, s2, s3, s4, s5⟩ := hSw; first | (go_simp; done) | (go_simp; with_reducible rfl))
      simp only [List.setIfInBounds_toArray, List.set_cons_zero, List.set_cons_succ]
      refine takeD 50 (i := 6) (v := ?v7) rfl rfl (by kernel_rfl) (by kernel_rfl) (by kernel_rfl) (fun _ _ _ h => h) (by kernel_rfl) ?hy7 hS ?rest7
      case hy7 => (intro w0 hSw; obtain ⟨s0, s1, s2, s3, s4, s5⟩ := hSw; first | (go_simp; done) | (go_simp; with_reducible rfl))
      simp only [List.setIfInBounds_toArray, List.set_cons_zero, List.set_cons_succ]
      refine takeD 52 (i := 8) (v := ?v8) rfl rfl (by kernel_rfl) (by kernel_rfl) (by kernel_rfl) (fun _ _ _ h => h) (by kernel_rfl) ?hy8 hS ?rest8
      case hy8 => (intro w0 hSw; obtain ⟨s0, s1, s2, s3, s4, s5⟩ := hSw; first | (go_simp; done) | (go_simp; with_reducible rfl))
      simp only [List.setIfInBounds_toArray, List.set_cons_zero, List.set_cons_succ]
      refine takeD 53 (i := 9) (v := ?v9) rfl rfl (by kernel_rfl) (by kernel_rfl) (by kernel_rfl) (fun _ _ _ h => h) (by kernel_rfl) ?hy9 hS ?rest9
      case hy9 => (intro w0 hSw; obtain ⟨s0, s1, s2, s3, s4, s5⟩ := hSw; first | (go_simp; done) | (go_simp; with_reducible rfl))
      simp only [List.setIfInBounds_toArray, List.set_cons_zero, List.set_cons_succ]
      refine takeD 54 (i := 10) (v := ?v10) rfl rfl (by kernel_rfl) (by kernel_rfl) (by kernel_rfl) (fun _ _ _ h => h) (by kernel_rfl) ?hy10 hS ?rest10
      case hy10 => (intro w0 hSw; obtain ⟨s0, s1, s2, s3, s4, s5⟩ := hSw; first | (go_simp; done) | (go_simp; with_reducible rfl))
      simp only [List.setIfInBounds_toArray, List.set_cons_zero, List.set_cons_succ]
      refine takeD 55 (i := 11) (v := ?v11) rfl rfl (by kernel_rfl) (by kernel_rfl) (by kernel_rfl) (fun _ _ _ h => h) (by kernel_rfl) ?hy11 hS ?rest11
      case hy11 => (intro w0 hSw; obtain ⟨s0, s1, s2, s3, s4, s5⟩ := hSw; first | (go_simp; done) | (go_simp; with_reducible rfl))
      simp only [List.setIfInBounds_toArray, List.set_cons_zero, List.set_cons_succ]
      refine takeD 56 (i := 12) (v := ?v12) rfl rfl (by kernel_rfl) (by kernel_rfl) (by kernel_rfl) (fun _ _ _ h => h) (by kernel_rfl) ?hy12 hS ?rest12
      case hy12 => (intro w0 hSw; obtain ⟨s0, s1, s2, s3, s4, s5⟩ := hSw; first | (go_simp; done) | (go_simp; with_reducible rfl))
      simp only [List.setIfInBounds_toArray, List.set_cons_zero, List.set_cons_succ]
      refine takeD 57 (i := 13) (v := ?v13) rfl rfl (by kernel_rfl) (by kernel_rfl) (by kernel_rfl) (fun _ _ _ h => h) (by kernel_rfl) ?hy13 hS ?rest13
      case hy13 => (intro w0 hSw; obtain ⟨s0, s1, s2, s3, s4, s5⟩ := hSw; first | (go_simp; done) | (go_simp; with_reducible rfl))
      simp only [List.setIfInBounds_toArray, List.set_cons_zero, List.set_cons_succ]
      refine onlyE 51 (i := 7) rfl rfl (by kernel_rfl) (by kernel_rfl) (fun K hK => ?_)
      simp only [List.setIfInBounds_toArray, List.set_cons_zero, List.set_cons_succ] at hK
      go_simp
      go_at_call 18
      with_reducible refine (find_yes HRN.out HXN.out _ (Lib.hid (HN.out.bel (HA.out.trans (Bel.refl _).drew)))).mono ?_
      rintro e wy ⟨rfl, hby⟩
      have HY := Lib.hid ((Bel.drew (Bel.refl wr)).trans hby)
      have hS2 := HS.out wy HY.out
      refine hK _ _ hS2 (fun _ => ?_)
      clear hK K hby
      refine takeD 58 (i := 14) (v := ?v14) rfl rfl (by kernel_rfl) (by kernel_rfl) (by kernel_rfl) (fun _ _ _ h => h) (by kernel_rfl) ?hy14 hS2 ?rest14
      case hy14 => (intro w0 hSw; obtain ⟨s0, s1, s2, s3, s4, s5⟩ := hSw; first | (go_simp; done) | (go_simp; with_reducible rfl))
      simp only [List.setIfInBounds_toArray, List.set_cons_zero, List.set_cons_succ]
      refine wpAnyH_done (by kernel_rfl) ?_ _
      have v1 : (pl != pl) = false := by simp
      have HA2 := Lib.hid (HA.out.trans HY.out)
      go_wp2_with fail
      go_roundw
      case rel => exact ⟨k + 1, HLT.out, by go_num, HA2.out⟩
      case measure => simp [intOf]; have := HLT.out; omega

    · obtain rfl : k = m.syms.length := by omega
      have q6 : wr.cell? ⟨b6, 2, none⟩ = some (.slice q m.syms.length d) := cell_of_heap (HA.out.stays HX6.out) 2
      have q60 : wr.cell? ⟨b6, 0, none⟩ = some (.slice p m.words.length c) := cell_of_heap (HA.out.stays HX6.out) 0
      have q61 : wr.cell? ⟨b6, 1, none⟩ = some (.int .i64 m.mem) := cell_of_heap (HA.out.stays HX6.out) 1
      clear hk hkl
      obtain ⟨S, hS⟩ : ∃ S, str (text m) = S := ⟨_, rfl⟩
      obtain ⟨T, hT⟩ : ∃ T, str (text (moreV m y)) = T := ⟨_, rfl⟩
      have hz1 : (T.size : Int) = (S.size : Int) + 9 + 13 := by
        rw [← hS, ← hT, str_size, str_size, more_text]
        omega
      have hz2 : S.size ≤ 700013 := by rw [← hS, str_size]; exact text_len HR.out
      have HST := Lib.hid hS
      have HTT := Lib.hid hT
      have HZ := Lib.hid (⟨hz1, hz2⟩ : _ ∧ _)
      clear hS hT hz1 hz2
      go_wp2_with fail
      refine (print_yes (wp := p) (sp := q) (wc := c) (sc := d) HR.out HST.out _ (Lib.hid (HI.out.bel HA.out)) (HL.out.bel (HB.out.trans HA.out)).2.1).mono ?_
      rintro e w5 ⟨rfl, hb⟩
      have HA := Lib.hid (HA.out.trans hb)
      clear hb q6 q60 q61
      have q0 : w5.cell? ⟨B, 0, none⟩ = some (.slice p2 (moreV m y).words.length c2) := cell_of_heap (HA.out.stays HBN.out) 0
      have q1 : w5.cell? ⟨B, 1, none⟩ = some (.int .i64 (moreV m y).mem) := cell_of_heap (HA.out.stays HBN.out) 1
      have q2' : w5.cell? ⟨B, 2, none⟩ = some (.slice q2 (moreV m y).syms.length d2) := cell_of_heap (HA.out.stays HBN.out) 2
      go_wp2_with fail
      refine (print_yes (wp := p2) (sp := q2) (wc := c2) (sc := d2) (m := moreV m y) HRN.out HTT.out _ (Lib.hid (HN.out.bel HA.out)) (HL.out.bel (HB.out.trans HA.out)).2.1).mono ?_
      rintro e w6 ⟨rfl, hb⟩
      have HD := Lib.hid (HA.out.trans hb).drew
      have HE := Lib.hid (HA.out.trans hb)
      clear hb q0 q1 q2'
      have HS11 : Hid (∀ W, Bel w' W → S11 B b6 p2 q2 c2 d2 p q c d m y W) := Lib.hid (fun W hb => by
        have hg := hb.stays HBN.out
        have hg6 := hb.stays HX6.out
        exact ⟨cell_of_heap hg 0, cell_of_heap hg 1, cell_of_heap hg 2, cell_of_heap hg6 0, cell_of_heap hg6 1, cell_of_heap hg6 2⟩)
      have HXL : Hid ((moreV m y).syms[m.syms.length]? = some ⟨⟨#[126, 126, 126]⟩, 4 * ((m.words.length : Int) + 1)⟩) := Lib.hid (by
        unfold moreV
        rw [List.getElem?_append_right (Nat.le_refl _), Nat.sub_self]
        rfl)
      have HUN := Lib.hid (more_unlike m y)
      have hz1 := HZ.out.1
      have hz2 := HZ.out.2
      have vs1 : IntKind.i64.wrap ((S.size : Int) + 9) = (S.size : Int) + 9 := IntWalk.i64_in _ (by constructor <;> omega)
      have vs2 : IntKind.i64.wrap ((S.size : Int) + 9 + 13) = (S.size : Int) + 9 + 13 := IntWalk.i64_in _ (by constructor <;> omega)
      have vs3 : ((T.size : Int) == (S.size : Int) + 9 + 13) = true := by rw [hz1]; exact beq_self_eq_true _
      have hwl : ((moreV m y).words.length : Int) = (m.words.length : Int) + 1 := by unfold moreV; simp
      have hlw := HLW2.out
      have vs4 : IntKind.i64.wrap (4 * ((moreV m y).words.length : Int)) = 4 * ((moreV m y).words.length : Int) := IntWalk.i64_in _ (by constructor <;> omega)
      have vs5 : (4 * ((m.words.length : Int) + 1) == 4 * ((moreV m y).words.length : Int)) = true := by rw [hwl]; exact beq_self_eq_true _
      clear hz1 hz2 hwl hlw
      go_wp2_with fail
      refine wp_region_held_drew (S := S11 B b6 p2 q2 c2 d2 p q c d m y) (by kernel_rfl) (HS11.out _ HD.out) (fun hS => ?_)
      refine takeD 69 (i := 0) (v := ?v15) rfl rfl (by kernel_rfl) (by kernel_rfl) (by kernel_rfl) (fun _ _ _ h => h) (by kernel_rfl) ?hy15 hS ?rest15
      case hy15 => (intro w0 hSw; obtain ⟨s0, s1, s2, s3, s4, s5⟩ := hSw; first | (go_simp; done) | (go_simp; with_reducible rfl))
      simp only [List.setIfInBounds_toArray, List.set_cons_zero, List.set_cons_succ]
      refine takeD 70 (i := 1) (v := ?v16) rfl rfl (by kernel_rfl) (by kernel_rfl) (by kernel_rfl) (fun _ _ _ h => h) (by kernel_rfl) ?hy16 hS ?rest16
      case hy16 => (intro w0 hSw; obtain ⟨s0, s1, s2, s3, s4, s5⟩ := hSw; first | (go_simp; done) | (go_simp; with_reducible rfl))
      simp only [List.setIfInBounds_toArray, List.set_cons_zero, List.set_cons_succ]
      refine takeD 71 (i := 2) (v := ?v17) rfl rfl (by kernel_rfl) (by kernel_rfl) (by kernel_rfl) (fun _ _ _ h => h) (by kernel_rfl) ?hy17 hS ?rest17
      case hy17 => (intro w0 hSw; obtain ⟨s0, s1, s2, s3, s4, s5⟩ := hSw; first | (go_simp; done) | (go_simp; with_reducible rfl))
      simp only [List.setIfInBounds_toArray, List.set_cons_zero, List.set_cons_succ]
      refine onlyE 72 (i := 3) rfl rfl (by kernel_rfl) (by kernel_rfl) (fun K hK => ?_)
      simp only [List.setIfInBounds_toArray, List.set_cons_zero, List.set_cons_succ] at hK
      go_simp
      go_at_call 14
      with_reducible refine (right_lit HRN.out _ (Lib.hid (HN.out.bel HD.out))).mono ?_
      rintro e wa ⟨rfl, hb⟩
      have HWA := Lib.hid (HD.out.trans hb)
      have hSwa := HS11.out wa HWA.out
      refine hK _ _ hSwa (fun _ => ?_)
      clear hK K hb
      refine takeD 73 (i := 4) (v := ?v18) rfl rfl (by kernel_rfl) (by kernel_rfl) (by kernel_rfl) (fun _ _ _ h => h) (by kernel_rfl) ?hy18 hSwa ?rest18
      case hy18 => (intro w0 hSw; obtain ⟨s0, s1, s2, s3, s4, s5⟩ := hSw; first | (go_simp; done) | (go_simp; with_reducible rfl))
      simp only [List.setIfInBounds_toArray, List.set_cons_zero, List.set_cons_succ]
      refine takeD 74 (i := 5) (v := ?v19) rfl rfl (by kernel_rfl) (by kernel_rfl) (by kernel_rfl) (fun _ _ _ h => h) (by kernel_rfl) ?hy19 hSwa ?rest19
      case hy19 => (intro w0 hSw; obtain ⟨s0, s1, s2, s3, s4, s5⟩ := hSw; first | (go_simp; done) | (go_simp; with_reducible rfl))
      simp only [List.setIfInBounds_toArray, List.set_cons_zero, List.set_cons_succ]
      refine takeD 75 (i := 6) (v := ?v20) rfl rfl (by kernel_rfl) (by kernel_rfl) (by kernel_rfl) (fun _ _ _ h => h) (by kernel_rfl) ?hy20 hSwa ?rest20
      case hy20 => (intro w0 hSw; obtain ⟨s0, s1, s2, s3, s4, s5⟩ := hSw; first | (go_simp; done) | (go_simp; with_reducible rfl))
      simp only [List.setIfInBounds_toArray, List.set_cons_zero, List.set_cons_succ]
      refine takeD 76 (i := 7) (v := ?v21) rfl rfl (by kernel_rfl) (by kernel_rfl) (by kernel_rfl) (fun _ _ _ h => h) (by kernel_rfl) ?hy21 hSwa ?rest21
      case hy21 => (intro w0 hSw; obtain ⟨s0, s1, s2, s3, s4, s5⟩ := hSw; first | (go_simp; done) | (go_simp; with_reducible rfl))
      simp only [List.setIfInBounds_toArray, List.set_cons_zero, List.set_cons_succ]
      refine takeD 77 (i := 8) (v := ?v22) rfl rfl (by kernel_rfl) (by kernel_rfl) (by kernel_rfl) (fun _ _ _ h => h) (by kernel_rfl) ?hy22 hSwa ?rest22
      case hy22 => (intro w0 hSw; obtain ⟨s0, s1, s2, s3, s4, s5⟩ := hSw; first | (go_simp; done) | (go_simp; with_reducible rfl))
      simp only [List.setIfInBounds_toArray, List.set_cons_zero, List.set_cons_succ]
      refine takeD 78 (i := 9) (v := ?v23) rfl rfl (by kernel_rfl) (by kernel_rfl) (by kernel_rfl) (fun _ _ _ h => h) (by kernel_rfl) ?hy23 hSwa ?rest23
      case hy23 => (intro w0 hSw; obtain ⟨s0, s1, s2, s3, s4, s5⟩ := hSw; first | (go_simp; done) | (go_simp; with_reducible rfl))
      simp only [List.setIfInBounds_toArray, List.set_cons_zero, List.set_cons_succ]
      refine takeD 79 (i := 10) (v := ?v24) rfl rfl (by kernel_rfl) (by kernel_rfl) (by kernel_rfl) (fun _ _ _ h => h) (by kernel_rfl) ?hy24 hSwa ?rest24
      case hy24 => (intro w0 hSw; obtain ⟨s0, s1, s2, s3, s4, s5⟩ := hSw; first | (go_simp; done) | (go_simp; with_reducible rfl))
      simp only [List.setIfInBounds_toArray, List.set_cons_zero, List.set_cons_succ]
      refine takeD 80 (i := 11) (v := ?v25) rfl rfl (by kernel_rfl) (by kernel_rfl) (by kernel_rfl) (fun _ _ _ h => h) (by kernel_rfl) ?hy25 hSwa ?rest25
      case hy25 => (intro w0 hSw; obtain ⟨s0, s1, s2, s3, s4, s5⟩ := hSw; first | (go_simp; done) | (go_simp; with_reducible rfl))
      simp only [List.setIfInBounds_toArray, List.set_cons_zero, List.set_cons_succ]
      refine takeD 81 (i := 12) (v := ?v26) rfl rfl (by kernel_rfl) (by kernel_rfl) (by kernel_rfl) (fun _ _ _ h => h) (by kernel_rfl) ?hy26 hSwa ?rest26
      case hy26 => (intro w0 hSw; obtain ⟨s0, s1, s2, s3, s4, s5⟩ := hSw; first | (go_simp; done) | (go_simp; with_reducible rfl))
      simp only [List.setIfInBounds_toArray, List.set_cons_zero, List.set_cons_succ]
      refine takeD 82 (i := 13) (v := ?v27) rfl rfl (by kernel_rfl) (by kernel_rfl) (by kernel_rfl) (fun _ _ _ h => h) (by kernel_rfl) ?hy27 hSwa ?rest27
      case hy27 => (intro w0 hSw; obtain ⟨s0, s1, s2, s3, s4, s5⟩ := hSw; first | (go_simp; done) | (go_simp; with_reducible rfl))
      simp only [List.setIfInBounds_toArray, List.set_cons_zero, List.set_cons_succ]
      refine takeD 83 (i := 14) (v := ?v28) rfl rfl (by kernel_rfl) (by kernel_rfl) (by kernel_rfl) (fun _ _ _ h => h) (by kernel_rfl) ?hy28 hSwa ?rest28
      case hy28 => (intro w0 hSw; obtain ⟨s0, s1, s2, s3, s4, s5⟩ := hSw; first | (go_simp; done) | (go_simp; with_reducible rfl))
      simp only [List.setIfInBounds_toArray, List.set_cons_zero, List.set_cons_succ]
      refine takeD 84 (i := 15) (v := ?v29) rfl rfl (by kernel_rfl) (by kernel_rfl) (by kernel_rfl) (fun _ _ _ h => h) (by kernel_rfl) ?hy29 hSwa ?rest29
      case hy29 => (intro w0 hSw; obtain ⟨s0, s1, s2, s3, s4, s5⟩ := hSw; first | (go_simp; done) | (go_simp; with_reducible rfl))
      simp only [List.setIfInBounds_toArray, List.set_cons_zero, List.set_cons_succ]
      refine takeD 85 (i := 16) (v := ?v30) rfl rfl (by kernel_rfl) (by kernel_rfl) (by kernel_rfl) (fun _ _ _ h => h) (by kernel_rfl) ?hy30 hSwa ?rest30
      case hy30 => (intro w0 hSw; obtain ⟨s0, s1, s2, s3, s4, s5⟩ := hSw; first | (go_simp; done) | (go_simp; with_reducible rfl))
      simp only [List.setIfInBounds_toArray, List.set_cons_zero, List.set_cons_succ]
      refine takeD 86 (i := 17) (v := ?v31) rfl rfl (by kernel_rfl) (by kernel_rfl) (by kernel_rfl) (fun _ _ _ h => h) (by kernel_rfl) ?hy31 hSwa ?rest31
      case hy31 => (intro w0 hSw; obtain ⟨s0, s1, s2, s3, s4, s5⟩ := hSw; first | (go_simp; done) | (go_simp; with_reducible rfl))
      simp only [List.setIfInBounds_toArray, List.set_cons_zero, List.set_cons_succ]
      refine takeD 87 (i := 18) (v := ?v32) rfl rfl (by kernel_rfl) (by kernel_rfl) (by kernel_rfl) (fun _ _ _ h => h) (by kernel_rfl) ?hy32 hSwa ?rest32
      case hy32 => (intro w0 hSw; obtain ⟨s0, s1, s2, s3, s4, s5⟩ := hSw; first | (go_simp; done) | (go_simp; with_reducible rfl))
      simp only [List.setIfInBounds_toArray, List.set_cons_zero, List.set_cons_succ]
      refine takeD 88 (i := 19) (v := ?v33) rfl rfl (by kernel_rfl) (by kernel_rfl) (by kernel_rfl) (fun _ _ _ h => h) (by kernel_rfl) ?hy33 hSwa ?rest33
      case hy33 => (intro w0 hSw; obtain ⟨s0, s1, s2, s3, s4, s5⟩ := hSw; first | (go_simp; done) | (go_simp; with_reducible rfl))
      simp only [List.setIfInBounds_toArray, List.set_cons_zero, List.set_cons_succ]
      refine takeD 89 (i := 20) (v := ?v34) rfl rfl (by kernel_rfl) (by kernel_rfl) (by kernel_rfl) (fun _ _ _ h => h) (by kernel_rfl) ?hy34 hSwa ?rest34
      case hy34 => (intro w0 hSw; obtain ⟨s0, s1, s2, s3, s4, s5⟩ := hSw; first | (go_simp; done) | (go_simp; with_reducible rfl))
      simp only [List.setIfInBounds_toArray, List.set_cons_zero, List.set_cons_succ]
      refine takeD 90 (i := 21) (v := ?v35) rfl rfl (by kernel_rfl) (by kernel_rfl) (by kernel_rfl) (fun _ _ _ h => h) (by kernel_rfl) ?hy35 hSwa ?rest35
      case hy35 => (intro w0 hSw; obtain ⟨s0, s1, s2, s3, s4, s5⟩ := hSw; first | (go_simp; done) | (go_simp; with_reducible rfl))
      simp only [List.setIfInBounds_toArray, List.set_cons_zero, List.set_cons_succ]
      refine takeD 91 (i := 22) (v := ?v36) rfl rfl (by kernel_rfl) (by kernel_rfl) (by kernel_rfl) (fun _ _ _ h => h) (by kernel_rfl) ?hy36 hSwa ?rest36
      case hy36 => (intro w0 hSw; obtain ⟨s0, s1, s2, s3, s4, s5⟩ := hSw; first | (go_simp; done) | (go_simp; with_reducible rfl))
      simp only [List.setIfInBounds_toArray, List.set_cons_zero, List.set_cons_succ]
      refine takeD 92 (i := 23) (v := ?v37) rfl rfl (by kernel_rfl) (by kernel_rfl) (by kernel_rfl) (fun _ _ _ h => h) (by kernel_rfl) ?hy37 hSwa ?rest37
      case hy37 => (intro w0 hSw; obtain ⟨s0, s1, s2, s3, s4, s5⟩ := hSw; first | (go_simp; done) | (go_simp; with_reducible rfl))
      simp only [List.setIfInBounds_toArray, List.set_cons_zero, List.set_cons_succ]
      refine takeD 94 (i := 25) (v := ?v38) rfl rfl (by kernel_rfl) (by kernel_rfl) (by kernel_rfl) (fun _ _ _ h => h) (by kernel_rfl) ?hy38 hSwa ?rest38
      case hy38 => (intro w0 hSw; obtain ⟨s0, s1, s2, s3, s4, s5⟩ := hSw; first | (go_simp; done) | (go_simp; with_reducible rfl))
      simp only [List.setIfInBounds_toArray, List.set_cons_zero, List.set_cons_succ]
      refine takeD 95 (i := 26) (v := ?v39) rfl rfl (by kernel_rfl) (by kernel_rfl) (by kernel_rfl) (fun _ _ _ h => h) (by kernel_rfl) ?hy39 hSwa ?rest39
      case hy39 => (intro w0 hSw; obtain ⟨s0, s1, s2, s3, s4, s5⟩ := hSw; first | (go_simp; done) | (go_simp; with_reducible rfl))
      simp only [List.setIfInBounds_toArray, List.set_cons_zero, List.set_cons_succ]
      refine takeD 96 (i := 27) (v := ?v40) rfl rfl (by kernel_rfl) (by kernel_rfl) (by kernel_rfl) (fun _ _ _ h => h) (by kernel_rfl) ?hy40 hSwa ?rest40
      case hy40 => (intro w0 hSw; obtain ⟨s0, s1, s2, s3, s4, s5⟩ := hSw; first | (go_simp; done) | (go_simp; with_reducible rfl))
      simp only [List.setIfInBounds_toArray, List.set_cons_zero, List.set_cons_succ]
      refine takeD 97 (i := 28) (v := ?v41) rfl rfl (by kernel_rfl) (by kernel_rfl) (by kernel_rfl) (fun _ _ _ h => h) (by kernel_rfl) ?hy41 hSwa ?rest41
      case hy41 => (intro w0 hSw; obtain ⟨s0, s1, s2, s3, s4, s5⟩ := hSw; first | (go_simp; done) | (go_simp; with_reducible rfl))
      simp only [List.setIfInBounds_toArray, List.set_cons_zero, List.set_cons_succ]
      refine onlyE 93 (i := 24) rfl rfl (by kernel_rfl) (by kernel_rfl) (fun K hK => ?_)
      simp only [List.setIfInBounds_toArray, List.set_cons_zero, List.set_cons_succ] at hK
      go_simp
      go_at_call 18
      with_reducible refine (find_yes HRN.out HXL.out _ (Lib.hid (HN.out.bel HWA.out))).mono ?_
      rintro e wb ⟨rfl, hb⟩
      have HWB := Lib.hid (HWA.out.trans hb)
      have hSwb := HS11.out wb HWB.out
      refine hK _ _ hSwb (fun _ => ?_)
      clear hK K hb
      refine takeD 98 (i := 29) (v := ?v42) rfl rfl (by kernel_rfl) (by kernel_rfl) (by kernel_rfl) (fun _ _ _ h => h) (by kernel_rfl) ?hy42 hSwb ?rest42
      case hy42 => (intro w0 hSw; obtain ⟨s0, s1, s2, s3, s4, s5⟩ := hSw; first | (go_simp; done) | (go_simp; with_reducible rfl))
      simp only [List.setIfInBounds_toArray, List.set_cons_zero, List.set_cons_succ]
      refine takeD 99 (i := 30) (v := ?v43) rfl rfl (by kernel_rfl) (by kernel_rfl) (by kernel_rfl) (fun _ _ _ h => h) (by kernel_rfl) ?hy43 hSwb ?rest43
      case hy43 => (intro w0 hSw; obtain ⟨s0, s1, s2, s3, s4, s5⟩ := hSw; first | (go_simp; done) | (go_simp; with_reducible rfl))
      simp only [List.setIfInBounds_toArray, List.set_cons_zero, List.set_cons_succ]
      refine takeD 100 (i := 31) (v := ?v44) rfl rfl (by kernel_rfl) (by kernel_rfl) (by kernel_rfl) (fun _ _ _ h => h) (by kernel_rfl) ?hy44 hSwb ?rest44
      case hy44 => (intro w0 hSw; obtain ⟨s0, s1, s2, s3, s4, s5⟩ := hSw; first | (go_simp; done) | (go_simp; with_reducible rfl))
      simp only [List.setIfInBounds_toArray, List.set_cons_zero, List.set_cons_succ]
      refine takeD 101 (i := 32) (v := ?v45) rfl rfl (by kernel_rfl) (by kernel_rfl) (by kernel_rfl) (fun _ _ _ h => h) (by kernel_rfl) ?hy45 hSwb ?rest45
      case hy45 => (intro w0 hSw; obtain ⟨s0, s1, s2, s3, s4, s5⟩ := hSw; first | (go_simp; done) | (go_simp; with_reducible rfl))
      simp only [List.setIfInBounds_toArray, List.set_cons_zero, List.set_cons_succ]
      refine takeD 102 (i := 33) (v := ?v46) rfl rfl (by kernel_rfl) (by kernel_rfl) (by kernel_rfl) (fun _ _ _ h => h) (by kernel_rfl) ?hy46 hSwb ?rest46
      case hy46 => (intro w0 hSw; obtain ⟨s0, s1, s2, s3, s4, s5⟩ := hSw; first | (go_simp; done) | (go_simp; with_reducible rfl))
      simp only [List.setIfInBounds_toArray, List.set_cons_zero, List.set_cons_succ]
      refine onlyE 103 (i := 34) rfl rfl (by kernel_rfl) (by kernel_rfl) (fun K hK => ?_)
      simp only [List.setIfInBounds_toArray, List.set_cons_zero, List.set_cons_succ] at hK
      go_simp
      go_at_call 20
      with_reducible refine (same_lit HUN.out _ (Lib.hid (HI.out.bel HWB.out)) (Lib.hid (HN.out.bel HWB.out))).mono ?_
      rintro e wd ⟨rfl, hb⟩
      have HWD := Lib.hid (HWB.out.trans hb)
      have hSwd := HS11.out wd HWD.out
      refine hK _ _ hSwd (fun _ => ?_)
      clear hK K hb
      refine takeD 104 (i := 35) (v := ?v47) rfl rfl (by kernel_rfl) (by kernel_rfl) (by kernel_rfl) (fun _ _ _ h => h) (by kernel_rfl) ?hy47 hSwd ?rest47
      case hy47 => (intro w0 hSw; obtain ⟨s0, s1, s2, s3, s4, s5⟩ := hSw; first | (go_simp; done) | (go_simp; with_reducible rfl))
      simp only [List.setIfInBounds_toArray, List.set_cons_zero, List.set_cons_succ]
      refine takeD 105 (i := 36) (v := ?v48) rfl rfl (by kernel_rfl) (by kernel_rfl) (by kernel_rfl) (fun _ _ _ h => h) (by kernel_rfl) ?hy48 hSwd ?rest48
      case hy48 => (intro w0 hSw; obtain ⟨s0, s1, s2, s3, s4, s5⟩ := hSw; first | (go_simp; done) | (go_simp; with_reducible rfl))
      simp only [List.setIfInBounds_toArray, List.set_cons_zero, List.set_cons_succ]
      refine takeD 4 (i := 37) (v := ?v49) rfl rfl (by kernel_rfl) (by kernel_rfl) (by kernel_rfl) (fun _ _ _ h => h) (by kernel_rfl) ?hy49 hSwd ?rest49
      case hy49 => (intro w0 hSw; obtain ⟨s0, s1, s2, s3, s4, s5⟩ := hSw; first | (go_simp; done) | (go_simp; with_reducible rfl))
      simp only [List.setIfInBounds_toArray, List.set_cons_zero, List.set_cons_succ]
      refine wpAnyH_done (by kernel_rfl) ?_ _

      go_wp2_with fail
      go_ret
      exact ⟨rfl, HB.out.trans HWD.out⟩
  case step =>
      intro l a w' i o hl hcl hI ho hf hd K hK
      have hi23 : i < 23 := (Array.getElem?_eq_some_iff.1 ho).1
      obtain rfl | rfl | rfl | rfl | rfl | rfl | rfl | rfl | rfl | rfl | rfl | rfl | rfl | rfl | rfl | rfl | rfl | rfl | rfl | rfl | rfl | rfl | rfl : i = 0 ∨ i = 1 ∨ i = 2 ∨ i = 3 ∨ i = 4 ∨ i = 5 ∨ i = 6 ∨ i = 7 ∨ i = 8 ∨ i = 9 ∨ i = 10 ∨ i = 11 ∨ i = 12 ∨ i = 13 ∨ i = 14 ∨ i = 15 ∨ i = 16 ∨ i = 17 ∨ i = 18 ∨ i = 19 ∨ i = 20 ∨ i = 21 ∨ i = 22 := by omega
      · obtain rfl := Option.some.inj ho
        have n22 : l[22]? = some false := not_yet (by rw [hl]; decide) (fun c => ne_tf hf (hcl 22 _ rfl c ⟨0, .phase⟩ (by simp)))
        have hb := hI.bel
        obtain ⟨t16, t17, t18, t19, t20, t21, t22, t23, t24, t25, t26, t27, t28, t29, t30, t31, t32, t33, t34, t35, t36, t7, rfl, f0, f1, f3, f4, f7, f8, f9, f10, f12, f13, f14, f15, f16, f17, f20, fM, fF⟩ := hI.frame
        have hM := fM n22
        simp only [List.getElem_toArray, List.getElem_cons_succ, List.getElem_cons_zero] at hd ⊢
        clear ho
        refine ⟨by rfl, ?_⟩
        unfold m3F
        go_simp
        exact hK _ _ ⟨hb, .pointer (some ⟨b6, 0, none⟩), t17, t18, t19, t20, t21, t22, t23, t24, t25, t26, t27, t28, t29, t30, t31, t32, t33, t34, t35, t36, t7, rfl, fun _ => rfl, fun h => f1 (by rwa [set_ne (by decide)] at h), fun h => f3 (by rwa [set_ne (by decide)] at h), fun h => f4 (by rwa [set_ne (by decide)] at h), fun h => f7 (by rwa [set_ne (by decide)] at h), fun h => f8 (by rwa [set_ne (by decide)] at h), fun h => f9 (by rwa [set_ne (by decide)] at h), fun h => f10 (by rwa [set_ne (by decide)] at h), fun h => f12 (by rwa [set_ne (by decide)] at h), fun h => f13 (by rwa [set_ne (by decide)] at h), fun h => f14 (by rwa [set_ne (by decide)] at h), fun h => f15 (by rwa [set_ne (by decide)] at h), fun h => f16 (by rwa [set_ne (by decide)] at h), fun h => f17 (by rwa [set_ne (by decide)] at h), fun h => f20 (by rwa [set_ne (by decide)] at h), fun _ => ⟨fun h h' => hM.r18 (by rwa [set_ne (by decide)] at h) (by rwa [set_ne (by decide)] at h'), fun h h' => hM.b21 (by rwa [set_ne (by decide)] at h) (by rwa [set_ne (by decide)] at h'), fun h => hM.r22 (by rwa [set_ne (by decide)] at h), fun h h' => hM.r27 (by rwa [set_ne (by decide)] at h) (by rwa [set_ne (by decide)] at h'), fun h h' => hM.b34 (by rwa [set_ne (by decide)] at h) (by rwa [set_ne (by decide)] at h'), fun h => hM.r35 (by rwa [set_ne (by decide)] at h), fun h => hM.b7 (by rwa [set_ne (by decide)] at h)⟩, fun h => (ne_tf n22 (by rwa [set_ne (by decide)] at h)).elim⟩
      · obtain rfl := Option.some.inj ho
        have n22 : l[22]? = some false := not_yet (by rw [hl]; decide) (fun c => ne_tf hf (hcl 22 _ rfl c ⟨1, .phase⟩ (by simp)))
        have hb := hI.bel
        obtain ⟨t16, t17, t18, t19, t20, t21, t22, t23, t24, t25, t26, t27, t28, t29, t30, t31, t32, t33, t34, t35, t36, t7, rfl, f0, f1, f3, f4, f7, f8, f9, f10, f12, f13, f14, f15, f16, f17, f20, fM, fF⟩ := hI.frame
        have hM := fM n22
        simp only [List.getElem_toArray, List.getElem_cons_succ, List.getElem_cons_zero] at hd ⊢
        clear ho
        obtain rfl := f0 (hd ⟨0, .data⟩ (by simp))
        have hx := hb.stays HX6.out
        have hc : w'.cell? ⟨b6, 0, none⟩ = some (.slice p m.words.length c) := cell_of_heap hx 0
        refine ⟨by rfl, ?_⟩
        unfold m3F
        go_simp
        exact hK _ _ ⟨hb, .pointer (some ⟨b6, 0, none⟩), .slice p m.words.length c, t18, t19, t20, t21, t22, t23, t24, t25, t26, t27, t28, t29, t30, t31, t32, t33, t34, t35, t36, t7, rfl, fun h => f0 (by rwa [set_ne (by decide)] at h), fun _ => rfl, fun h => f3 (by rwa [set_ne (by decide)] at h), fun h => f4 (by rwa [set_ne (by decide)] at h), fun h => f7 (by rwa [set_ne (by decide)] at h), fun h => f8 (by rwa [set_ne (by decide)] at h), fun h => f9 (by rwa [set_ne (by decide)] at h), fun h => f10 (by rwa [set_ne (by decide)] at h), fun h => f12 (by rwa [set_ne (by decide)] at h), fun h => f13 (by rwa [set_ne (by decide)] at h), fun h => f14 (by rwa [set_ne (by decide)] at h), fun h => f15 (by rwa [set_ne (by decide)] at h), fun h => f16 (by rwa [set_ne (by decide)] at h), fun h => f17 (by rwa [set_ne (by decide)] at h), fun h => f20 (by rwa [set_ne (by decide)] at h), fun _ => ⟨fun h h' => hM.r18 (by rwa [set_ne (by decide)] at h) (by rwa [set_ne (by decide)] at h'), fun h h' => hM.b21 (by rwa [set_ne (by decide)] at h) (by rwa [set_ne (by decide)] at h'), fun h => hM.r22 (by rwa [set_ne (by decide)] at h), fun h h' => hM.r27 (by rwa [set_ne (by decide)] at h) (by rwa [set_ne (by decide)] at h'), fun h h' => hM.b34 (by rwa [set_ne (by decide)] at h) (by rwa [set_ne (by decide)] at h'), fun h => hM.r35 (by rwa [set_ne (by decide)] at h), fun h => hM.b7 (by rwa [set_ne (by decide)] at h)⟩, fun h => (ne_tf n22 (by rwa [set_ne (by decide)] at h)).elim⟩
      · obtain rfl := Option.some.inj ho
        have n22 : l[22]? = some false := not_yet (by rw [hl]; decide) (fun c => ne_tf hf (hcl 22 _ rfl c ⟨2, .phase⟩ (by simp)))
        have hb := hI.bel
        obtain ⟨t16, t17, t18, t19, t20, t21, t22, t23, t24, t25, t26, t27, t28, t29, t30, t31, t32, t33, t34, t35, t36, t7, rfl, f0, f1, f3, f4, f7, f8, f9, f10, f12, f13, f14, f15, f16, f17, f20, fM, fF⟩ := hI.frame
        have hM := fM n22
        simp only [List.getElem_toArray, List.getElem_cons_succ, List.getElem_cons_zero] at hd ⊢
        clear ho
        obtain rfl := f1 (hd ⟨1, .data⟩ (by simp))
        obtain ⟨v', w2, hrun, hro, hbe⟩ := HA18.out w' hb
        have hM2 := hM.bel hbe
        have n6 : l[6]? = some false := not_yet (by rw [hl]; decide) (fun c => ne_tf hf (hcl 6 _ rfl c ⟨2, .data⟩ (by simp)))
        refine ⟨by rfl, ?_⟩
        refine wp_app (.const (.slice none 0 0)) (.tmp 17) 22 rfl _ _ _ rfl rfl hrun rfl ?_
        exact hK _ _ ⟨hb.trans hbe, t16, .slice p m.words.length c, v', t19, t20, t21, t22, t23, t24, t25, t26, t27, t28, t29, t30, t31, t32, t33, t34, t35, t36, t7, rfl, fun h => f0 (by rwa [set_ne (by decide)] at h), fun h => f1 (by rwa [set_ne (by decide)] at h), fun h => f3 (by rwa [set_ne (by decide)] at h), fun h => f4 (by rwa [set_ne (by decide)] at h), fun h => f7 (by rwa [set_ne (by decide)] at h), fun h => f8 (by rwa [set_ne (by decide)] at h), fun h => f9 (by rwa [set_ne (by decide)] at h), fun h => f10 (by rwa [set_ne (by decide)] at h), fun h => f12 (by rwa [set_ne (by decide)] at h), fun h => f13 (by rwa [set_ne (by decide)] at h), fun h => f14 (by rwa [set_ne (by decide)] at h), fun h => f15 (by rwa [set_ne (by decide)] at h), fun h => f16 (by rwa [set_ne (by decide)] at h), fun h => f17 (by rwa [set_ne (by decide)] at h), fun h => f20 (by rwa [set_ne (by decide)] at h), fun _ => ⟨fun _ _ => hro, fun h h' => hM2.b21 (by rwa [set_ne (by decide)] at h) (by rwa [set_ne (by decide)] at h'), fun h => hM2.r22 (by rwa [set_ne (by decide)] at h), fun h h' => hM2.r27 (by rwa [set_ne (by decide)] at h) (by rwa [set_ne (by decide)] at h'), fun h h' => hM2.b34 (by rwa [set_ne (by decide)] at h) (by rwa [set_ne (by decide)] at h'), fun h => hM2.r35 (by rwa [set_ne (by decide)] at h), fun h => hM2.b7 (by rwa [set_ne (by decide)] at h)⟩, fun h => (ne_tf n22 (by rwa [set_ne (by decide)] at h)).elim⟩
      · obtain rfl := Option.some.inj ho
        have n22 : l[22]? = some false := not_yet (by rw [hl]; decide) (fun c => ne_tf hf (hcl 22 _ rfl c ⟨3, .phase⟩ (by simp)))
        have hb := hI.bel
        obtain ⟨t16, t17, t18, t19, t20, t21, t22, t23, t24, t25, t26, t27, t28, t29, t30, t31, t32, t33, t34, t35, t36, t7, rfl, f0, f1, f3, f4, f7, f8, f9, f10, f12, f13, f14, f15, f16, f17, f20, fM, fF⟩ := hI.frame
        have hM := fM n22
        simp only [List.getElem_toArray, List.getElem_cons_succ, List.getElem_cons_zero] at hd ⊢
        clear ho
        refine ⟨by rfl, ?_⟩
        unfold m3F
        go_simp
        exact hK _ _ ⟨hb, t16, t17, t18, .int .i64 wv, t20, t21, t22, t23, t24, t25, t26, t27, t28, t29, t30, t31, t32, t33, t34, t35, t36, t7, rfl, fun h => f0 (by rwa [set_ne (by decide)] at h), fun h => f1 (by rwa [set_ne (by decide)] at h), fun _ => rfl, fun h => f4 (by rwa [set_ne (by decide)] at h), fun h => f7 (by rwa [set_ne (by decide)] at h), fun h => f8 (by rwa [set_ne (by decide)] at h), fun h => f9 (by rwa [set_ne (by decide)] at h), fun h => f10 (by rwa [set_ne (by decide)] at h), fun h => f12 (by rwa [set_ne (by decide)] at h), fun h => f13 (by rwa [set_ne (by decide)] at h), fun h => f14 (by rwa [set_ne (by decide)] at h), fun h => f15 (by rwa [set_ne (by decide)] at h), fun h => f16 (by rwa [set_ne (by decide)] at h), fun h => f17 (by rwa [set_ne (by decide)] at h), fun h => f20 (by rwa [set_ne (by decide)] at h), fun _ => ⟨fun h h' => hM.r18 (by rwa [set_ne (by decide)] at h) (by rwa [set_ne (by decide)] at h'), fun h h' => hM.b21 (by rwa [set_ne (by decide)] at h) (by rwa [set_ne (by decide)] at h'), fun h => hM.r22 (by rwa [set_ne (by decide)] at h), fun h h' => hM.r27 (by rwa [set_ne (by decide)] at h) (by rwa [set_ne (by decide)] at h'), fun h h' => hM.b34 (by rwa [set_ne (by decide)] at h) (by rwa [set_ne (by decide)] at h'), fun h => hM.r35 (by rwa [set_ne (by decide)] at h), fun h => hM.b7 (by rwa [set_ne (by decide)] at h)⟩, fun h => (ne_tf n22 (by rwa [set_ne (by decide)] at h)).elim⟩
      · obtain rfl := Option.some.inj ho
        have n22 : l[22]? = some false := not_yet (by rw [hl]; decide) (fun c => ne_tf hf (hcl 22 _ rfl c ⟨4, .phase⟩ (by simp)))
        have hb := hI.bel
        obtain ⟨t16, t17, t18, t19, t20, t21, t22, t23, t24, t25, t26, t27, t28, t29, t30, t31, t32, t33, t34, t35, t36, t7, rfl, f0, f1, f3, f4, f7, f8, f9, f10, f12, f13, f14, f15, f16, f17, f20, fM, fF⟩ := hI.frame
        have hM := fM n22
        simp only [List.getElem_toArray, List.getElem_cons_succ, List.getElem_cons_zero] at hd ⊢
        clear ho
        obtain rfl := f3 (hd ⟨3, .data⟩ (by simp))
        refine ⟨by rfl, ?_⟩
        unfold m3F
        go_simp
        go_at_call 22
        refine (pick_lit HPV.out HWV.out (by decide) _).mono ?_
        rintro e w2 ⟨rfl, rfl⟩
        exact hK _ _ ⟨hb, t16, t17, t18, .int .i64 wv, .int .i64 y, t21, t22, t23, t24, t25, t26, t27, t28, t29, t30, t31, t32, t33, t34, t35, t36, t7, rfl, fun h => f0 (by rwa [set_ne (by decide)] at h), fun h => f1 (by rwa [set_ne (by decide)] at h), fun h => f3 (by rwa [set_ne (by decide)] at h), fun _ => rfl, fun h => f7 (by rwa [set_ne (by decide)] at h), fun h => f8 (by rwa [set_ne (by decide)] at h), fun h => f9 (by rwa [set_ne (by decide)] at h), fun h => f10 (by rwa [set_ne (by decide)] at h), fun h => f12 (by rwa [set_ne (by decide)] at h), fun h => f13 (by rwa [set_ne (by decide)] at h), fun h => f14 (by rwa [set_ne (by decide)] at h), fun h => f15 (by rwa [set_ne (by decide)] at h), fun h => f16 (by rwa [set_ne (by decide)] at h), fun h => f17 (by rwa [set_ne (by decide)] at h), fun h => f20 (by rwa [set_ne (by decide)] at h), fun _ => ⟨fun h h' => hM.r18 (by rwa [set_ne (by decide)] at h) (by rwa [set_ne (by decide)] at h'), fun h h' => hM.b21 (by rwa [set_ne (by decide)] at h) (by rwa [set_ne (by decide)] at h'), fun h => hM.r22 (by rwa [set_ne (by decide)] at h), fun h h' => hM.r27 (by rwa [set_ne (by decide)] at h) (by rwa [set_ne (by decide)] at h'), fun h h' => hM.b34 (by rwa [set_ne (by decide)] at h) (by rwa [set_ne (by decide)] at h'), fun h => hM.r35 (by rwa [set_ne (by decide)] at h), fun h => hM.b7 (by rwa [set_ne (by decide)] at h)⟩, fun h => (ne_tf n22 (by rwa [set_ne (by decide)] at h)).elim⟩
      · obtain rfl := Option.some.inj ho
        have n22 : l[22]? = some false := not_yet (by rw [hl]; decide) (fun c => ne_tf hf (hcl 22 _ rfl c ⟨5, .phase⟩ (by simp)))
        have hb := hI.bel
        obtain ⟨t16, t17, t18, t19, t20, t21, t22, t23, t24, t25, t26, t27, t28, t29, t30, t31, t32, t33, t34, t35, t36, t7, rfl, f0, f1, f3, f4, f7, f8, f9, f10, f12, f13, f14, f15, f16, f17, f20, fM, fF⟩ := hI.frame
        have hM := fM n22
        simp only [List.getElem_toArray, List.getElem_cons_succ, List.getElem_cons_zero] at hd ⊢
        clear ho
        obtain rfl := f4 (hd ⟨4, .data⟩ (by simp))
        have hM2 := hM.bel ((Bel.refl w').alloc #[.int .i64 y] 3)
        refine ⟨by rfl, ?_⟩
        unfold m3F
        go_simp
        exact hK _ _ ⟨hb.alloc _ _, t16, t17, t18, t19, .int .i64 y, .slice (some ⟨w'.heap.size, 0, none⟩) 1 1, t22, t23, t24, t25, t26, t27, t28, t29, t30, t31, t32, t33, t34, t35, t36, t7, rfl, fun h => f0 (by rwa [set_ne (by decide)] at h), fun h => f1 (by rwa [set_ne (by decide)] at h), fun h => f3 (by rwa [set_ne (by decide)] at h), fun h => f4 (by rwa [set_ne (by decide)] at h), fun h => f7 (by rwa [set_ne (by decide)] at h), fun h => f8 (by rwa [set_ne (by decide)] at h), fun h => f9 (by rwa [set_ne (by decide)] at h), fun h => f10 (by rwa [set_ne (by decide)] at h), fun h => f12 (by rwa [set_ne (by decide)] at h), fun h => f13 (by rwa [set_ne (by decide)] at h), fun h => f14 (by rwa [set_ne (by decide)] at h), fun h => f15 (by rwa [set_ne (by decide)] at h), fun h => f16 (by rwa [set_ne (by decide)] at h), fun h => f17 (by rwa [set_ne (by decide)] at h), fun h => f20 (by rwa [set_ne (by decide)] at h), fun _ => ⟨fun h h' => hM2.r18 (by rwa [set_ne (by decide)] at h) (by rwa [set_ne (by decide)] at h'), fun _ _ => ⟨_, rfl, heap_alloc_new w' _⟩, fun h => hM2.r22 (by rwa [set_ne (by decide)] at h), fun h h' => hM2.r27 (by rwa [set_ne (by decide)] at h) (by rwa [set_ne (by decide)] at h'), fun h h' => hM2.b34 (by rwa [set_ne (by decide)] at h) (by rwa [set_ne (by decide)] at h'), fun h => hM2.r35 (by rwa [set_ne (by decide)] at h), fun h => hM2.b7 (by rwa [set_ne (by decide)] at h)⟩, fun h => (ne_tf n22 (by rwa [set_ne (by decide)] at h)).elim⟩
      · obtain rfl := Option.some.inj ho
        have n22 : l[22]? = some false := not_yet (by rw [hl]; decide) (fun c => ne_tf hf (hcl 22 _ rfl c ⟨6, .phase⟩ (by simp)))
        have hb := hI.bel
        obtain ⟨t16, t17, t18, t19, t20, t21, t22, t23, t24, t25, t26, t27, t28, t29, t30, t31, t32, t33, t34, t35, t36, t7, rfl, f0, f1, f3, f4, f7, f8, f9, f10, f12, f13, f14, f15, f16, f17, f20, fM, fF⟩ := hI.frame
        have hM := fM n22
        simp only [List.getElem_toArray, List.getElem_cons_succ, List.getElem_cons_zero] at hd ⊢
        clear ho
        obtain ⟨B, rfl, hB⟩ := hM.b21 (hd ⟨5, .data⟩ (by simp)) hf
        have hR := hM.r18 (hd ⟨2, .data⟩ (by simp)) hf
        obtain ⟨v', w2, hrun, hro, hsv⟩ := irow_app hR y B (cell_of_heap hB 0) HLW.out hb.size
        have hbe : Bel W0 w2 := hsv.bel hb (fun g hg => (own_lo hR g hg).1)
        refine ⟨by rfl, ?_⟩
        refine wp_app (.tmp 18) (.tmp 21) 22 rfl _ _ _ rfl rfl hrun rfl ?_
        exact hK _ _ ⟨hbe, t16, t17, t18, t19, t20, .slice (some ⟨B, 0, none⟩) 1 1, v', t23, t24, t25, t26, t27, t28, t29, t30, t31, t32, t33, t34, t35, t36, t7, rfl, fun h => f0 (by rwa [set_ne (by decide)] at h), fun h => f1 (by rwa [set_ne (by decide)] at h), fun h => f3 (by rwa [set_ne (by decide)] at h), fun h => f4 (by rwa [set_ne (by decide)] at h), fun h => f7 (by rwa [set_ne (by decide)] at h), fun h => f8 (by rwa [set_ne (by decide)] at h), fun h => f9 (by rwa [set_ne (by decide)] at h), fun h => f10 (by rwa [set_ne (by decide)] at h), fun h => f12 (by rwa [set_ne (by decide)] at h), fun h => f13 (by rwa [set_ne (by decide)] at h), fun h => f14 (by rwa [set_ne (by decide)] at h), fun h => f15 (by rwa [set_ne (by decide)] at h), fun h => f16 (by rwa [set_ne (by decide)] at h), fun h => f17 (by rwa [set_ne (by decide)] at h), fun h => (ne_tf (not_yet (by rw [hl]; decide) (fun c => ne_tf hf (hcl 20 _ rfl c ⟨6, .data⟩ (by simp)))) (by rwa [set_ne (by decide)] at h)).elim, fun _ => ⟨fun _ h' => (ne_tf h' (set_eq hf)).elim, fun _ h' => (ne_tf h' (set_eq hf)).elim, fun _ => hro, fun h h' => (hM.r27 (by rwa [set_ne (by decide)] at h) (by rwa [set_ne (by decide)] at h')).sv hsv (fun g hg c => by obtain ⟨_, cs, fr, hc⟩ := own_lo (hM.r27 (by rwa [set_ne (by decide)] at h) (by rwa [set_ne (by decide)] at h')) g hg; exact own_ne hR hc (by decide) c), fun h h' => (by obtain ⟨B', e1, e2⟩ := hM.b34 (by rwa [set_ne (by decide)] at h) (by rwa [set_ne (by decide)] at h'); exact ⟨B', e1, (hsv.block B' (lt_of_heap e2) (own_ne hR e2 (by decide))).trans e2⟩), fun h => (hM.r35 (by rwa [set_ne (by decide)] at h)).sv hsv (fun g hg c => by obtain ⟨_, cs, fr, hc⟩ := own_lo (hM.r35 (by rwa [set_ne (by decide)] at h)) g hg; exact own_ne hR hc (by decide) c), fun h => (by obtain ⟨B', e1, e2, e3⟩ := hM.b7 (by rwa [set_ne (by decide)] at h); exact ⟨B', e1, (hsv.block B' (lt_of_heap e2) (own_ne hR e2 (by decide))).trans e2, e3⟩)⟩, fun h => (ne_tf n22 (by rwa [set_ne (by decide)] at h)).elim⟩
      · obtain rfl := Option.some.inj ho
        have n22 : l[22]? = some false := not_yet (by rw [hl]; decide) (fun c => ne_tf hf (hcl 22 _ rfl c ⟨7, .phase⟩ (by simp)))
        have hb := hI.bel
        obtain ⟨t16, t17, t18, t19, t20, t21, t22, t23, t24, t25, t26, t27, t28, t29, t30, t31, t32, t33, t34, t35, t36, t7, rfl, f0, f1, f3, f4, f7, f8, f9, f10, f12, f13, f14, f15, f16, f17, f20, fM, fF⟩ := hI.frame
        have hM := fM n22
        simp only [List.getElem_toArray, List.getElem_cons_succ, List.getElem_cons_zero] at hd ⊢
        clear ho
        refine ⟨by rfl, ?_⟩
        unfold m3F
        go_simp
        exact hK _ _ ⟨hb, t16, t17, t18, t19, t20, t21, t22, .pointer (some ⟨b6, 1, none⟩), t24, t25, t26, t27, t28, t29, t30, t31, t32, t33, t34, t35, t36, t7, rfl, fun h => f0 (by rwa [set_ne (by decide)] at h), fun h => f1 (by rwa [set_ne (by decide)] at h), fun h => f3 (by rwa [set_ne (by decide)] at h), fun h => f4 (by rwa [set_ne (by decide)] at h), fun _ => rfl, fun h => f8 (by rwa [set_ne (by decide)] at h), fun h => f9 (by rwa [set_ne (by decide)] at h), fun h => f10 (by rwa [set_ne (by decide)] at h), fun h => f12 (by rwa [set_ne (by decide)] at h), fun h => f13 (by rwa [set_ne (by decide)] at h), fun h => f14 (by rwa [set_ne (by decide)] at h), fun h => f15 (by rwa [set_ne (by decide)] at h), fun h => f16 (by rwa [set_ne (by decide)] at h), fun h => f17 (by rwa [set_ne (by decide)] at h), fun h => f20 (by rwa [set_ne (by decide)] at h), fun _ => ⟨fun h h' => hM.r18 (by rwa [set_ne (by decide)] at h) (by rwa [set_ne (by decide)] at h'), fun h h' => hM.b21 (by rwa [set_ne (by decide)] at h) (by rwa [set_ne (by decide)] at h'), fun h => hM.r22 (by rwa [set_ne (by decide)] at h), fun h h' => hM.r27 (by rwa [set_ne (by decide)] at h) (by rwa [set_ne (by decide)] at h'), fun h h' => hM.b34 (by rwa [set_ne (by decide)] at h) (by rwa [set_ne (by decide)] at h'), fun h => hM.r35 (by rwa [set_ne (by decide)] at h), fun h => hM.b7 (by rwa [set_ne (by decide)] at h)⟩, fun h => (ne_tf n22 (by rwa [set_ne (by decide)] at h)).elim⟩
      · obtain rfl := Option.some.inj ho
        have n22 : l[22]? = some false := not_yet (by rw [hl]; decide) (fun c => ne_tf hf (hcl 22 _ rfl c ⟨8, .phase⟩ (by simp)))
        have hb := hI.bel
        obtain ⟨t16, t17, t18, t19, t20, t21, t22, t23, t24, t25, t26, t27, t28, t29, t30, t31, t32, t33, t34, t35, t36, t7, rfl, f0, f1, f3, f4, f7, f8, f9, f10, f12, f13, f14, f15, f16, f17, f20, fM, fF⟩ := hI.frame
        have hM := fM n22
        simp only [List.getElem_toArray, List.getElem_cons_succ, List.getElem_cons_zero] at hd ⊢
        clear ho
        obtain rfl := f7 (hd ⟨7, .data⟩ (by simp))
        have hx := hb.stays HX6.out
        have hc : w'.cell? ⟨b6, 1, none⟩ = some (.int .i64 m.mem) := cell_of_heap hx 1
        refine ⟨by rfl, ?_⟩
        unfold m3F
        go_simp
        exact hK _ _ ⟨hb, t16, t17, t18, t19, t20, t21, t22, .pointer (some ⟨b6, 1, none⟩), .int .i64 m.mem, t25, t26, t27, t28, t29, t30, t31, t32, t33, t34, t35, t36, t7, rfl, fun h => f0 (by rwa [set_ne (by decide)] at h), fun h => f1 (by rwa [set_ne (by decide)] at h), fun h => f3 (by rwa [set_ne (by decide)] at h), fun h => f4 (by rwa [set_ne (by decide)] at h), fun h => f7 (by rwa [set_ne (by decide)] at h), fun _ => rfl, fun h => f9 (by rwa [set_ne (by decide)] at h), fun h => f10 (by rwa [set_ne (by decide)] at h), fun h => f12 (by rwa [set_ne (by decide)] at h), fun h => f13 (by rwa [set_ne (by decide)] at h), fun h => f14 (by rwa [set_ne (by decide)] at h), fun h => f15 (by rwa [set_ne (by decide)] at h), fun h => f16 (by rwa [set_ne (by decide)] at h), fun h => f17 (by rwa [set_ne (by decide)] at h), fun h => f20 (by rwa [set_ne (by decide)] at h), fun _ => ⟨fun h h' => hM.r18 (by rwa [set_ne (by decide)] at h) (by rwa [set_ne (by decide)] at h'), fun h h' => hM.b21 (by rwa [set_ne (by decide)] at h) (by rwa [set_ne (by decide)] at h'), fun h => hM.r22 (by rwa [set_ne (by decide)] at h), fun h h' => hM.r27 (by rwa [set_ne (by decide)] at h) (by rwa [set_ne (by decide)] at h'), fun h h' => hM.b34 (by rwa [set_ne (by decide)] at h) (by rwa [set_ne (by decide)] at h'), fun h => hM.r35 (by rwa [set_ne (by decide)] at h), fun h => hM.b7 (by rwa [set_ne (by decide)] at h)⟩, fun h => (ne_tf n22 (by rwa [set_ne (by decide)] at h)).elim⟩
      · obtain rfl := Option.some.inj ho
        have n22 : l[22]? = some false := not_yet (by rw [hl]; decide) (fun c => ne_tf hf (hcl 22 _ rfl c ⟨9, .phase⟩ (by simp)))
        have hb := hI.bel
        obtain ⟨t16, t17, t18, t19, t20, t21, t22, t23, t24, t25, t26, t27, t28, t29, t30, t31, t32, t33, t34, t35, t36, t7, rfl, f0, f1, f3, f4, f7, f8, f9, f10, f12, f13, f14, f15, f16, f17, f20, fM, fF⟩ := hI.frame
        have hM := fM n22
        simp only [List.getElem_toArray, List.getElem_cons_succ, List.getElem_cons_zero] at hd ⊢
        clear ho
        refine ⟨by rfl, ?_⟩
        unfold m3F
        go_simp
        exact hK _ _ ⟨hb, t16, t17, t18, t19, t20, t21, t22, t23, t24, .pointer (some ⟨b6, 2, none⟩), t26, t27, t28, t29, t30, t31, t32, t33, t34, t35, t36, t7, rfl, fun h => f0 (by rwa [set_ne (by decide)] at h), fun h => f1 (by rwa [set_ne (by decide)] at h), fun h => f3 (by rwa [set_ne (by decide)] at h), fun h => f4 (by rwa [set_ne (by decide)] at h), fun h => f7 (by rwa [set_ne (by decide)] at h), fun h => f8 (by rwa [set_ne (by decide)] at h), fun _ => rfl, fun h => f10 (by rwa [set_ne (by decide)] at h), fun h => f12 (by rwa [set_ne (by decide)] at h), fun h => f13 (by rwa [set_ne (by decide)] at h), fun h => f14 (by rwa [set_ne (by decide)] at h), fun h => f15 (by rwa [set_ne (by decide)] at h), fun h => f16 (by rwa [set_ne (by decide)] at h), fun h => f17 (by rwa [set_ne (by decide)] at h), fun h => f20 (by rwa [set_ne (by decide)] at h), fun _ => ⟨fun h h' => hM.r18 (by rwa [set_ne (by decide)] at h) (by rwa [set_ne (by decide)] at h'), fun h h' => hM.b21 (by rwa [set_ne (by decide)] at h) (by rwa [set_ne (by decide)] at h'), fun h => hM.r22 (by rwa [set_ne (by decide)] at h), fun h h' => hM.r27 (by rwa [set_ne (by decide)] at h) (by rwa [set_ne (by decide)] at h'), fun h h' => hM.b34 (by rwa [set_ne (by decide)] at h) (by rwa [set_ne (by decide)] at h'), fun h => hM.r35 (by rwa [set_ne (by decide)] at h), fun h => hM.b7 (by rwa [set_ne (by decide)] at h)⟩, fun h => (ne_tf n22 (by rwa [set_ne (by decide)] at h)).elim⟩
      · obtain rfl := Option.some.inj ho
        have n22 : l[22]? = some false := not_yet (by rw [hl]; decide) (fun c => ne_tf hf (hcl 22 _ rfl c ⟨10, .phase⟩ (by simp)))
        have hb := hI.bel
        obtain ⟨t16, t17, t18, t19, t20, t21, t22, t23, t24, t25, t26, t27, t28, t29, t30, t31, t32, t33, t34, t35, t36, t7, rfl, f0, f1, f3, f4, f7, f8, f9, f10, f12, f13, f14, f15, f16, f17, f20, fM, fF⟩ := hI.frame
        have hM := fM n22
        simp only [List.getElem_toArray, List.getElem_cons_succ, List.getElem_cons_zero] at hd ⊢
        clear ho
        obtain rfl := f9 (hd ⟨9, .data⟩ (by simp))
        have hx := hb.stays HX6.out
        have hc : w'.cell? ⟨b6, 2, none⟩ = some (.slice q m.syms.length d) := cell_of_heap hx 2
        refine ⟨by rfl, ?_⟩
        unfold m3F
        go_simp
        exact hK _ _ ⟨hb, t16, t17, t18, t19, t20, t21, t22, t23, t24, .pointer (some ⟨b6, 2, none⟩), .slice q m.syms.length d, t27, t28, t29, t30, t31, t32, t33, t34, t35, t36, t7, rfl, fun h => f0 (by rwa [set_ne (by decide)] at h), fun h => f1 (by rwa [set_ne (by decide)] at h), fun h => f3 (by rwa [set_ne (by decide)] at h), fun h => f4 (by rwa [set_ne (by decide)] at h), fun h => f7 (by rwa [set_ne (by decide)] at h), fun h => f8 (by rwa [set_ne (by decide)] at h), fun h => f9 (by rwa [set_ne (by decide)] at h), fun _ => rfl, fun h => f12 (by rwa [set_ne (by decide)] at h), fun h => f13 (by rwa [set_ne (by decide)] at h), fun h => f14 (by rwa [set_ne (by decide)] at h), fun h => f15 (by rwa [set_ne (by decide)] at h), fun h => f16 (by rwa [set_ne (by decide)] at h), fun h => f17 (by rwa [set_ne (by decide)] at h), fun h => f20 (by rwa [set_ne (by decide)] at h), fun _ => ⟨fun h h' => hM.r18 (by rwa [set_ne (by decide)] at h) (by rwa [set_ne (by decide)] at h'), fun h h' => hM.b21 (by rwa [set_ne (by decide)] at h) (by rwa [set_ne (by decide)] at h'), fun h => hM.r22 (by rwa [set_ne (by decide)] at h), fun h h' => hM.r27 (by rwa [set_ne (by decide)] at h) (by rwa [set_ne (by decide)] at h'), fun h h' => hM.b34 (by rwa [set_ne (by decide)] at h) (by rwa [set_ne (by decide)] at h'), fun h => hM.r35 (by rwa [set_ne (by decide)] at h), fun h => hM.b7 (by rwa [set_ne (by decide)] at h)⟩, fun h => (ne_tf n22 (by rwa [set_ne (by decide)] at h)).elim⟩
      · obtain rfl := Option.some.inj ho
        have n22 : l[22]? = some false := not_yet (by rw [hl]; decide) (fun c => ne_tf hf (hcl 22 _ rfl c ⟨11, .phase⟩ (by simp)))
        have hb := hI.bel
        obtain ⟨t16, t17, t18, t19, t20, t21, t22, t23, t24, t25, t26, t27, t28, t29, t30, t31, t32, t33, t34, t35, t36, t7, rfl, f0, f1, f3, f4, f7, f8, f9, f10, f12, f13, f14, f15, f16, f17, f20, fM, fF⟩ := hI.frame
        have hM := fM n22
        simp only [List.getElem_toArray, List.getElem_cons_succ, List.getElem_cons_zero] at hd ⊢
        clear ho
        obtain rfl := f10 (hd ⟨10, .data⟩ (by simp))
        obtain ⟨v', w2, hrun, hro, hbe⟩ := HA27.out w' hb
        have hM2 := hM.bel hbe
        refine ⟨by rfl, ?_⟩
        refine wp_app (.const (.slice none 0 0)) (.tmp 26) 23 rfl _ _ _ rfl rfl hrun rfl ?_
        exact hK _ _ ⟨hb.trans hbe, t16, t17, t18, t19, t20, t21, t22, t23, t24, t25, .slice q m.syms.length d, v', t28, t29, t30, t31, t32, t33, t34, t35, t36, t7, rfl, fun h => f0 (by rwa [set_ne (by decide)] at h), fun h => f1 (by rwa [set_ne (by decide)] at h), fun h => f3 (by rwa [set_ne (by decide)] at h), fun h => f4 (by rwa [set_ne (by decide)] at h), fun h => f7 (by rwa [set_ne (by decide)] at h), fun h => f8 (by rwa [set_ne (by decide)] at h), fun h => f9 (by rwa [set_ne (by decide)] at h), fun h => f10 (by rwa [set_ne (by decide)] at h), fun h => f12 (by rwa [set_ne (by decide)] at h), fun h => f13 (by rwa [set_ne (by decide)] at h), fun h => f14 (by rwa [set_ne (by decide)] at h), fun h => f15 (by rwa [set_ne (by decide)] at h), fun h => f16 (by rwa [set_ne (by decide)] at h), fun h => f17 (by rwa [set_ne (by decide)] at h), fun h => f20 (by rwa [set_ne (by decide)] at h), fun _ => ⟨fun h h' => hM2.r18 (by rwa [set_ne (by decide)] at h) (by rwa [set_ne (by decide)] at h'), fun h h' => hM2.b21 (by rwa [set_ne (by decide)] at h) (by rwa [set_ne (by decide)] at h'), fun h => hM2.r22 (by rwa [set_ne (by decide)] at h), fun _ _ => hro, fun h h' => hM2.b34 (by rwa [set_ne (by decide)] at h) (by rwa [set_ne (by decide)] at h'), fun h => hM2.r35 (by rwa [set_ne (by decide)] at h), fun h => hM2.b7 (by rwa [set_ne (by decide)] at h)⟩, fun h => (ne_tf n22 (by rwa [set_ne (by decide)] at h)).elim⟩
      · obtain rfl := Option.some.inj ho
        have n22 : l[22]? = some false := not_yet (by rw [hl]; decide) (fun c => ne_tf hf (hcl 22 _ rfl c ⟨12, .phase⟩ (by simp)))
        have hb := hI.bel
        obtain ⟨t16, t17, t18, t19, t20, t21, t22, t23, t24, t25, t26, t27, t28, t29, t30, t31, t32, t33, t34, t35, t36, t7, rfl, f0, f1, f3, f4, f7, f8, f9, f10, f12, f13, f14, f15, f16, f17, f20, fM, fF⟩ := hI.frame
        have hM := fM n22
        simp only [List.getElem_toArray, List.getElem_cons_succ, List.getElem_cons_zero] at hd ⊢
        clear ho
        refine ⟨by rfl, ?_⟩
        unfold m3F
        go_simp
        exact hK _ _ ⟨hb, t16, t17, t18, t19, t20, t21, t22, t23, t24, t25, t26, t27, .pointer (some ⟨b6, 0, none⟩), t29, t30, t31, t32, t33, t34, t35, t36, t7, rfl, fun h => f0 (by rwa [set_ne (by decide)] at h), fun h => f1 (by rwa [set_ne (by decide)] at h), fun h => f3 (by rwa [set_ne (by decide)] at h), fun h => f4 (by rwa [set_ne (by decide)] at h), fun h => f7 (by rwa [set_ne (by decide)] at h), fun h => f8 (by rwa [set_ne (by decide)] at h), fun h => f9 (by rwa [set_ne (by decide)] at h), fun h => f10 (by rwa [set_ne (by decide)] at h), fun _ => rfl, fun h => f13 (by rwa [set_ne (by decide)] at h), fun h => f14 (by rwa [set_ne (by decide)] at h), fun h => f15 (by rwa [set_ne (by decide)] at h), fun h => f16 (by rwa [set_ne (by decide)] at h), fun h => f17 (by rwa [set_ne (by decide)] at h), fun h => f20 (by rwa [set_ne (by decide)] at h), fun _ => ⟨fun h h' => hM.r18 (by rwa [set_ne (by decide)] at h) (by rwa [set_ne (by decide)] at h'), fun h h' => hM.b21 (by rwa [set_ne (by decide)] at h) (by rwa [set_ne (by decide)] at h'), fun h => hM.r22 (by rwa [set_ne (by decide)] at h), fun h h' => hM.r27 (by rwa [set_ne (by decide)] at h) (by rwa [set_ne (by decide)] at h'), fun h h' => hM.b34 (by rwa [set_ne (by decide)] at h) (by rwa [set_ne (by decide)] at h'), fun h => hM.r35 (by rwa [set_ne (by decide)] at h), fun h => hM.b7 (by rwa [set_ne (by decide)] at h)⟩, fun h => (ne_tf n22 (by rwa [set_ne (by decide)] at h)).elim⟩
      · obtain rfl := Option.some.inj ho
        have n22 : l[22]? = some false := not_yet (by rw [hl]; decide) (fun c => ne_tf hf (hcl 22 _ rfl c ⟨13, .phase⟩ (by simp)))
        have hb := hI.bel
        obtain ⟨t16, t17, t18, t19, t20, t21, t22, t23, t24, t25, t26, t27, t28, t29, t30, t31, t32, t33, t34, t35, t36, t7, rfl, f0, f1, f3, f4, f7, f8, f9, f10, f12, f13, f14, f15, f16, f17, f20, fM, fF⟩ := hI.frame
        have hM := fM n22
        simp only [List.getElem_toArray, List.getElem_cons_succ, List.getElem_cons_zero] at hd ⊢
        clear ho
        obtain rfl := f12 (hd ⟨12, .data⟩ (by simp))
        have hx := hb.stays HX6.out
        have hc : w'.cell? ⟨b6, 0, none⟩ = some (.slice p m.words.length c) := cell_of_heap hx 0
        refine ⟨by rfl, ?_⟩
        unfold m3F
        go_simp
        exact hK _ _ ⟨hb, t16, t17, t18, t19, t20, t21, t22, t23, t24, t25, t26, t27, .pointer (some ⟨b6, 0, none⟩), .slice p m.words.length c, t30, t31, t32, t33, t34, t35, t36, t7, rfl, fun h => f0 (by rwa [set_ne (by decide)] at h), fun h => f1 (by rwa [set_ne (by decide)] at h), fun h => f3 (by rwa [set_ne (by decide)] at h), fun h => f4 (by rwa [set_ne (by decide)] at h), fun h => f7 (by rwa [set_ne (by decide)] at h), fun h => f8 (by rwa [set_ne (by decide)] at h), fun h => f9 (by rwa [set_ne (by decide)] at h), fun h => f10 (by rwa [set_ne (by decide)] at h), fun h => f12 (by rwa [set_ne (by decide)] at h), fun _ => rfl, fun h => f14 (by rwa [set_ne (by decide)] at h), fun h => f15 (by rwa [set_ne (by decide)] at h), fun h => f16 (by rwa [set_ne (by decide)] at h), fun h => f17 (by rwa [set_ne (by decide)] at h), fun h => f20 (by rwa [set_ne (by decide)] at h), fun _ => ⟨fun h h' => hM.r18 (by rwa [set_ne (by decide)] at h) (by rwa [set_ne (by decide)] at h'), fun h h' => hM.b21 (by rwa [set_ne (by decide)] at h) (by rwa [set_ne (by decide)] at h'), fun h => hM.r22 (by rwa [set_ne (by decide)] at h), fun h h' => hM.r27 (by rwa [set_ne (by decide)] at h) (by rwa [set_ne (by decide)] at h'), fun h h' => hM.b34 (by rwa [set_ne (by decide)] at h) (by rwa [set_ne (by decide)] at h'), fun h => hM.r35 (by rwa [set_ne (by decide)] at h), fun h => hM.b7 (by rwa [set_ne (by decide)] at h)⟩, fun h => (ne_tf n22 (by rwa [set_ne (by decide)] at h)).elim⟩
      · obtain rfl := Option.some.inj ho
        have n22 : l[22]? = some false := not_yet (by rw [hl]; decide) (fun c => ne_tf hf (hcl 22 _ rfl c ⟨14, .phase⟩ (by simp)))
        have hb := hI.bel
        obtain ⟨t16, t17, t18, t19, t20, t21, t22, t23, t24, t25, t26, t27, t28, t29, t30, t31, t32, t33, t34, t35, t36, t7, rfl, f0, f1, f3, f4, f7, f8, f9, f10, f12, f13, f14, f15, f16, f17, f20, fM, fF⟩ := hI.frame
        have hM := fM n22
        simp only [List.getElem_toArray, List.getElem_cons_succ, List.getElem_cons_zero] at hd ⊢
        clear ho
        obtain rfl := f13 (hd ⟨13, .data⟩ (by simp))
        refine ⟨by rfl, ?_⟩
        unfold m3F
        go_simp
        exact hK _ _ ⟨hb, t16, t17, t18, t19, t20, t21, t22, t23, t24, t25, t26, t27, t28, .slice p m.words.length c, .int .i64 (m.words.length : Int), t31, t32, t33, t34, t35, t36, t7, rfl, fun h => f0 (by rwa [set_ne (by decide)] at h), fun h => f1 (by rwa [set_ne (by decide)] at h), fun h => f3 (by rwa [set_ne (by decide)] at h), fun h => f4 (by rwa [set_ne (by decide)] at h), fun h => f7 (by rwa [set_ne (by decide)] at h), fun h => f8 (by rwa [set_ne (by decide)] at h), fun h => f9 (by rwa [set_ne (by decide)] at h), fun h => f10 (by rwa [set_ne (by decide)] at h), fun h => f12 (by rwa [set_ne (by decide)] at h), fun h => f13 (by rwa [set_ne (by decide)] at h), fun _ => rfl, fun h => f15 (by rwa [set_ne (by decide)] at h), fun h => f16 (by rwa [set_ne (by decide)] at h), fun h => f17 (by rwa [set_ne (by decide)] at h), fun h => f20 (by rwa [set_ne (by decide)] at h), fun _ => ⟨fun h h' => hM.r18 (by rwa [set_ne (by decide)] at h) (by rwa [set_ne (by decide)] at h'), fun h h' => hM.b21 (by rwa [set_ne (by decide)] at h) (by rwa [set_ne (by decide)] at h'), fun h => hM.r22 (by rwa [set_ne (by decide)] at h), fun h h' => hM.r27 (by rwa [set_ne (by decide)] at h) (by rwa [set_ne (by decide)] at h'), fun h h' => hM.b34 (by rwa [set_ne (by decide)] at h) (by rwa [set_ne (by decide)] at h'), fun h => hM.r35 (by rwa [set_ne (by decide)] at h), fun h => hM.b7 (by rwa [set_ne (by decide)] at h)⟩, fun h => (ne_tf n22 (by rwa [set_ne (by decide)] at h)).elim⟩
      · obtain rfl := Option.some.inj ho
        have n22 : l[22]? = some false := not_yet (by rw [hl]; decide) (fun c => ne_tf hf (hcl 22 _ rfl c ⟨15, .phase⟩ (by simp)))
        have hb := hI.bel
        obtain ⟨t16, t17, t18, t19, t20, t21, t22, t23, t24, t25, t26, t27, t28, t29, t30, t31, t32, t33, t34, t35, t36, t7, rfl, f0, f1, f3, f4, f7, f8, f9, f10, f12, f13, f14, f15, f16, f17, f20, fM, fF⟩ := hI.frame
        have hM := fM n22
        simp only [List.getElem_toArray, List.getElem_cons_succ, List.getElem_cons_zero] at hd ⊢
        clear ho
        obtain rfl := f14 (hd ⟨14, .data⟩ (by simp))
        have hlw := HLW.out
        have vw : IntKind.i64.wrap ((m.words.length : Int) + 1) = (m.words.length : Int) + 1 := IntWalk.i64_in _ (by constructor <;> omega)
        refine ⟨by rfl, ?_⟩
        unfold m3F
        go_simp
        exact hK _ _ ⟨hb, t16, t17, t18, t19, t20, t21, t22, t23, t24, t25, t26, t27, t28, t29, .int .i64 (m.words.length : Int), .int .i64 ((m.words.length : Int) + 1), t32, t33, t34, t35, t36, t7, rfl, fun h => f0 (by rwa [set_ne (by decide)] at h), fun h => f1 (by rwa [set_ne (by decide)] at h), fun h => f3 (by rwa [set_ne (by decide)] at h), fun h => f4 (by rwa [set_ne (by decide)] at h), fun h => f7 (by rwa [set_ne (by decide)] at h), fun h => f8 (by rwa [set_ne (by decide)] at h), fun h => f9 (by rwa [set_ne (by decide)] at h), fun h => f10 (by rwa [set_ne (by decide)] at h), fun h => f12 (by rwa [set_ne (by decide)] at h), fun h => f13 (by rwa [set_ne (by decide)] at h), fun h => f14 (by rwa [set_ne (by decide)] at h), fun _ => rfl, fun h => f16 (by rwa [set_ne (by decide)] at h), fun h => f17 (by rwa [set_ne (by decide)] at h), fun h => f20 (by rwa [set_ne (by decide)] at h), fun _ => ⟨fun h h' => hM.r18 (by rwa [set_ne (by decide)] at h) (by rwa [set_ne (by decide)] at h'), fun h h' => hM.b21 (by rwa [set_ne (by decide)] at h) (by rwa [set_ne (by decide)] at h'), fun h => hM.r22 (by rwa [set_ne (by decide)] at h), fun h h' => hM.r27 (by rwa [set_ne (by decide)] at h) (by rwa [set_ne (by decide)] at h'), fun h h' => hM.b34 (by rwa [set_ne (by decide)] at h) (by rwa [set_ne (by decide)] at h'), fun h => hM.r35 (by rwa [set_ne (by decide)] at h), fun h => hM.b7 (by rwa [set_ne (by decide)] at h)⟩, fun h => (ne_tf n22 (by rwa [set_ne (by decide)] at h)).elim⟩
      · obtain rfl := Option.some.inj ho
        have n22 : l[22]? = some false := not_yet (by rw [hl]; decide) (fun c => ne_tf hf (hcl 22 _ rfl c ⟨16, .phase⟩ (by simp)))
        have hb := hI.bel
        obtain ⟨t16, t17, t18, t19, t20, t21, t22, t23, t24, t25, t26, t27, t28, t29, t30, t31, t32, t33, t34, t35, t36, t7, rfl, f0, f1, f3, f4, f7, f8, f9, f10, f12, f13, f14, f15, f16, f17, f20, fM, fF⟩ := hI.frame
        have hM := fM n22
        simp only [List.getElem_toArray, List.getElem_cons_succ, List.getElem_cons_zero] at hd ⊢
        clear ho
        obtain rfl := f15 (hd ⟨15, .data⟩ (by simp))
        have hlw := HLW.out
        have vw : IntKind.i64.wrap (4 * ((m.words.length : Int) + 1)) = 4 * ((m.words.length : Int) + 1) := IntWalk.i64_in _ (by constructor <;> omega)
        refine ⟨by rfl, ?_⟩
        unfold m3F
        go_simp
        exact hK _ _ ⟨hb, t16, t17, t18, t19, t20, t21, t22, t23, t24, t25, t26, t27, t28, t29, t30, .int .i64 ((m.words.length : Int) + 1), .int .i64 (4 * ((m.words.length : Int) + 1)), t33, t34, t35, t36, t7, rfl, fun h => f0 (by rwa [set_ne (by decide)] at h), fun h => f1 (by rwa [set_ne (by decide)] at h), fun h => f3 (by rwa [set_ne (by decide)] at h), fun h => f4 (by rwa [set_ne (by decide)] at h), fun h => f7 (by rwa [set_ne (by decide)] at h), fun h => f8 (by rwa [set_ne (by decide)] at h), fun h => f9 (by rwa [set_ne (by decide)] at h), fun h => f10 (by rwa [set_ne (by decide)] at h), fun h => f12 (by rwa [set_ne (by decide)] at h), fun h => f13 (by rwa [set_ne (by decide)] at h), fun h => f14 (by rwa [set_ne (by decide)] at h), fun h => f15 (by rwa [set_ne (by decide)] at h), fun _ => rfl, fun h => f17 (by rwa [set_ne (by decide)] at h), fun h => f20 (by rwa [set_ne (by decide)] at h), fun _ => ⟨fun h h' => hM.r18 (by rwa [set_ne (by decide)] at h) (by rwa [set_ne (by decide)] at h'), fun h h' => hM.b21 (by rwa [set_ne (by decide)] at h) (by rwa [set_ne (by decide)] at h'), fun h => hM.r22 (by rwa [set_ne (by decide)] at h), fun h h' => hM.r27 (by rwa [set_ne (by decide)] at h) (by rwa [set_ne (by decide)] at h'), fun h h' => hM.b34 (by rwa [set_ne (by decide)] at h) (by rwa [set_ne (by decide)] at h'), fun h => hM.r35 (by rwa [set_ne (by decide)] at h), fun h => hM.b7 (by rwa [set_ne (by decide)] at h)⟩, fun h => (ne_tf n22 (by rwa [set_ne (by decide)] at h)).elim⟩
      · obtain rfl := Option.some.inj ho
        have n22 : l[22]? = some false := not_yet (by rw [hl]; decide) (fun c => ne_tf hf (hcl 22 _ rfl c ⟨17, .phase⟩ (by simp)))
        have hb := hI.bel
        obtain ⟨t16, t17, t18, t19, t20, t21, t22, t23, t24, t25, t26, t27, t28, t29, t30, t31, t32, t33, t34, t35, t36, t7, rfl, f0, f1, f3, f4, f7, f8, f9, f10, f12, f13, f14, f15, f16, f17, f20, fM, fF⟩ := hI.frame
        have hM := fM n22
        simp only [List.getElem_toArray, List.getElem_cons_succ, List.getElem_cons_zero] at hd ⊢
        clear ho
        obtain rfl := f16 (hd ⟨16, .data⟩ (by simp))
        refine ⟨by rfl, ?_⟩
        unfold m3F
        go_simp
        exact hK _ _ ⟨hb, t16, t17, t18, t19, t20, t21, t22, t23, t24, t25, t26, t27, t28, t29, t30, t31, .int .i64 (4 * ((m.words.length : Int) + 1)), .agg #[.string tl3, .int .i64 (4 * ((m.words.length : Int) + 1))], t34, t35, t36, t7, rfl, fun h => f0 (by rwa [set_ne (by decide)] at h), fun h => f1 (by rwa [set_ne (by decide)] at h), fun h => f3 (by rwa [set_ne (by decide)] at h), fun h => f4 (by rwa [set_ne (by decide)] at h), fun h => f7 (by rwa [set_ne (by decide)] at h), fun h => f8 (by rwa [set_ne (by decide)] at h), fun h => f9 (by rwa [set_ne (by decide)] at h), fun h => f10 (by rwa [set_ne (by decide)] at h), fun h => f12 (by rwa [set_ne (by decide)] at h), fun h => f13 (by rwa [set_ne (by decide)] at h), fun h => f14 (by rwa [set_ne (by decide)] at h), fun h => f15 (by rwa [set_ne (by decide)] at h), fun h => f16 (by rwa [set_ne (by decide)] at h), fun _ => rfl, fun h => f20 (by rwa [set_ne (by decide)] at h), fun _ => ⟨fun h h' => hM.r18 (by rwa [set_ne (by decide)] at h) (by rwa [set_ne (by decide)] at h'), fun h h' => hM.b21 (by rwa [set_ne (by decide)] at h) (by rwa [set_ne (by decide)] at h'), fun h => hM.r22 (by rwa [set_ne (by decide)] at h), fun h h' => hM.r27 (by rwa [set_ne (by decide)] at h) (by rwa [set_ne (by decide)] at h'), fun h h' => hM.b34 (by rwa [set_ne (by decide)] at h) (by rwa [set_ne (by decide)] at h'), fun h => hM.r35 (by rwa [set_ne (by decide)] at h), fun h => hM.b7 (by rwa [set_ne (by decide)] at h)⟩, fun h => (ne_tf n22 (by rwa [set_ne (by decide)] at h)).elim⟩
      · obtain rfl := Option.some.inj ho
        have n22 : l[22]? = some false := not_yet (by rw [hl]; decide) (fun c => ne_tf hf (hcl 22 _ rfl c ⟨18, .phase⟩ (by simp)))
        have hb := hI.bel
        obtain ⟨t16, t17, t18, t19, t20, t21, t22, t23, t24, t25, t26, t27, t28, t29, t30, t31, t32, t33, t34, t35, t36, t7, rfl, f0, f1, f3, f4, f7, f8, f9, f10, f12, f13, f14, f15, f16, f17, f20, fM, fF⟩ := hI.frame
        have hM := fM n22
        simp only [List.getElem_toArray, List.getElem_cons_succ, List.getElem_cons_zero] at hd ⊢
        clear ho
        obtain rfl := f17 (hd ⟨17, .data⟩ (by simp))
        have hM2 := hM.bel ((Bel.refl w').alloc #[.string tl3, .int .i64 (4 * ((m.words.length : Int) + 1))] 45)
        refine ⟨by rfl, ?_⟩
        unfold m3F
        go_simp
        exact hK _ _ ⟨hb.alloc _ _, t16, t17, t18, t19, t20, t21, t22, t23, t24, t25, t26, t27, t28, t29, t30, t31, t32, .agg #[.string tl3, .int .i64 (4 * ((m.words.length : Int) + 1))], .slice (some ⟨w'.heap.size, 0, none⟩) 1 1, t35, t36, t7, rfl, fun h => f0 (by rwa [set_ne (by decide)] at h), fun h => f1 (by rwa [set_ne (by decide)] at h), fun h => f3 (by rwa [set_ne (by decide)] at h), fun h => f4 (by rwa [set_ne (by decide)] at h), fun h => f7 (by rwa [set_ne (by decide)] at h), fun h => f8 (by rwa [set_ne (by decide)] at h), fun h => f9 (by rwa [set_ne (by decide)] at h), fun h => f10 (by rwa [set_ne (by decide)] at h), fun h => f12 (by rwa [set_ne (by decide)] at h), fun h => f13 (by rwa [set_ne (by decide)] at h), fun h => f14 (by rwa [set_ne (by decide)] at h), fun h => f15 (by rwa [set_ne (by decide)] at h), fun h => f16 (by rwa [set_ne (by decide)] at h), fun h => f17 (by rwa [set_ne (by decide)] at h), fun h => f20 (by rwa [set_ne (by decide)] at h), fun _ => ⟨fun h h' => hM2.r18 (by rwa [set_ne (by decide)] at h) (by rwa [set_ne (by decide)] at h'), fun h h' => hM2.b21 (by rwa [set_ne (by decide)] at h) (by rwa [set_ne (by decide)] at h'), fun h => hM2.r22 (by rwa [set_ne (by decide)] at h), fun h h' => hM2.r27 (by rwa [set_ne (by decide)] at h) (by rwa [set_ne (by decide)] at h'), fun _ _ => ⟨_, rfl, heap_alloc_new w' _⟩, fun h => hM2.r35 (by rwa [set_ne (by decide)] at h), fun h => hM2.b7 (by rwa [set_ne (by decide)] at h)⟩, fun h => (ne_tf n22 (by rwa [set_ne (by decide)] at h)).elim⟩
      · obtain rfl := Option.some.inj ho
        have n22 : l[22]? = some false := not_yet (by rw [hl]; decide) (fun c => ne_tf hf (hcl 22 _ rfl c ⟨19, .chain⟩ (by simp)))
        have hb := hI.bel
        obtain ⟨t16, t17, t18, t19, t20, t21, t22, t23, t24, t25, t26, t27, t28, t29, t30, t31, t32, t33, t34, t35, t36, t7, rfl, f0, f1, f3, f4, f7, f8, f9, f10, f12, f13, f14, f15, f16, f17, f20, fM, fF⟩ := hI.frame
        have hM := fM n22
        simp only [List.getElem_toArray, List.getElem_cons_succ, List.getElem_cons_zero] at hd ⊢
        clear ho
        obtain ⟨B, rfl, hB⟩ := hM.b34 (hd ⟨18, .data⟩ (by simp)) hf
        have hR := hM.r27 (hd ⟨11, .data⟩ (by simp)) hf
        have n6 := hcl 11 _ rfl (hd ⟨11, .data⟩ (by simp)) ⟨6, .chain⟩ (by simp)
        obtain ⟨v', w2, hrun, hro, hsv⟩ := srow_app hR ⟨tl3, 4 * ((m.words.length : Int) + 1)⟩ B (cell_of_heap hB 0) (cell_of_heap hB 1) HLS.out hb.size
        have hbe : Bel W0 w2 := hsv.bel hb (fun g hg => (own_lo hR g hg).1)
        refine ⟨by rfl, ?_⟩
        refine wp_app (.tmp 27) (.tmp 34) 23 rfl _ _ _ rfl rfl hrun rfl ?_
        exact hK _ _ ⟨hbe, t16, t17, t18, t19, t20, t21, t22, t23, t24, t25, t26, t27, t28, t29, t30, t31, t32, t33, .slice (some ⟨B, 0, none⟩) 1 1, v', t36, t7, rfl, fun h => f0 (by rwa [set_ne (by decide)] at h), fun h => f1 (by rwa [set_ne (by decide)] at h), fun h => f3 (by rwa [set_ne (by decide)] at h), fun h => f4 (by rwa [set_ne (by decide)] at h), fun h => f7 (by rwa [set_ne (by decide)] at h), fun h => f8 (by rwa [set_ne (by decide)] at h), fun h => f9 (by rwa [set_ne (by decide)] at h), fun h => f10 (by rwa [set_ne (by decide)] at h), fun h => f12 (by rwa [set_ne (by decide)] at h), fun h => f13 (by rwa [set_ne (by decide)] at h), fun h => f14 (by rwa [set_ne (by decide)] at h), fun h => f15 (by rwa [set_ne (by decide)] at h), fun h => f16 (by rwa [set_ne (by decide)] at h), fun h => f17 (by rwa [set_ne (by decide)] at h), fun h => (ne_tf (not_yet (by rw [hl]; decide) (fun c => ne_tf hf (hcl 20 _ rfl c ⟨19, .data⟩ (by simp)))) (by rwa [set_ne (by decide)] at h)).elim, fun _ => ⟨fun _ h' => (ne_tf h' (set_true n6)).elim, fun _ h' => (ne_tf h' (set_true n6)).elim, fun h => (hM.r22 (by rwa [set_ne (by decide)] at h)).sv hsv (fun g hg c => by obtain ⟨_, cs, fr, hc⟩ := own_lo (hM.r22 (by rwa [set_ne (by decide)] at h)) g hg; exact own_ne hR hc (by decide) c), fun _ h' => (ne_tf h' (set_eq hf)).elim, fun _ h' => (ne_tf h' (set_eq hf)).elim, fun _ => hro, fun h => (by obtain ⟨B', e1, e2, e3⟩ := hM.b7 (by rwa [set_ne (by decide)] at h); exact ⟨B', e1, (hsv.block B' (lt_of_heap e2) (own_ne hR e2 (by decide))).trans e2, e3⟩)⟩, fun h => (ne_tf n22 (by rwa [set_ne (by decide)] at h)).elim⟩
      · obtain rfl := Option.some.inj ho
        have n22 : l[22]? = some false := not_yet (by rw [hl]; decide) (fun c => ne_tf hf (hcl 22 _ rfl c ⟨20, .data⟩ (by simp)))
        have hb := hI.bel
        obtain ⟨t16, t17, t18, t19, t20, t21, t22, t23, t24, t25, t26, t27, t28, t29, t30, t31, t32, t33, t34, t35, t36, t7, rfl, f0, f1, f3, f4, f7, f8, f9, f10, f12, f13, f14, f15, f16, f17, f20, fM, fF⟩ := hI.frame
        have hM := fM n22
        simp only [List.getElem_toArray, List.getElem_cons_succ, List.getElem_cons_zero] at hd ⊢
        clear ho
        obtain rfl := f8 (hd ⟨8, .data⟩ (by simp))
        obtain ⟨p2, c2, hv1, _, _⟩ := ERow.form (enc := icell) (k := 1) (fun _ => rfl) (hM.r22 (hd ⟨6, .data⟩ (by simp)))
        rw [show (m.words ++ [y]).length = m.words.length + 1 by simp] at hv1
        subst hv1
        obtain ⟨q2, d2, hv2, _, _⟩ := ERow.form (enc := scell) (k := 2) (fun _ => rfl) (hM.r35 (hd ⟨19, .data⟩ (by simp)))
        rw [show (m.syms ++ [(⟨tl3, 4 * ((m.words.length : Int) + 1)⟩ : Sym)]).length = m.syms.length + 1 by simp] at hv2
        subst hv2
        refine ⟨by rfl, ?_⟩
        unfold m3F
        go_simp
        exact hK _ _ ⟨hb, t16, t17, t18, t19, t20, t21, .slice p2 (m.words.length + 1) c2, t23, .int .i64 m.mem, t25, t26, t27, t28, t29, t30, t31, t32, t33, t34, .slice q2 (m.syms.length + 1) d2, .agg #[.slice p2 (m.words.length + 1) c2, .int .i64 m.mem, .slice q2 (m.syms.length + 1) d2], t7, rfl, fun h => f0 (by rwa [set_ne (by decide)] at h), fun h => f1 (by rwa [set_ne (by decide)] at h), fun h => f3 (by rwa [set_ne (by decide)] at h), fun h => f4 (by rwa [set_ne (by decide)] at h), fun h => f7 (by rwa [set_ne (by decide)] at h), fun h => f8 (by rwa [set_ne (by decide)] at h), fun h => f9 (by rwa [set_ne (by decide)] at h), fun h => f10 (by rwa [set_ne (by decide)] at h), fun h => f12 (by rwa [set_ne (by decide)] at h), fun h => f13 (by rwa [set_ne (by decide)] at h), fun h => f14 (by rwa [set_ne (by decide)] at h), fun h => f15 (by rwa [set_ne (by decide)] at h), fun h => f16 (by rwa [set_ne (by decide)] at h), fun h => f17 (by rwa [set_ne (by decide)] at h), fun _ => rfl, fun _ => ⟨fun h h' => hM.r18 (by rwa [set_ne (by decide)] at h) (by rwa [set_ne (by decide)] at h'), fun h h' => hM.b21 (by rwa [set_ne (by decide)] at h) (by rwa [set_ne (by decide)] at h'), fun h => hM.r22 (by rwa [set_ne (by decide)] at h), fun h h' => hM.r27 (by rwa [set_ne (by decide)] at h) (by rwa [set_ne (by decide)] at h'), fun h h' => hM.b34 (by rwa [set_ne (by decide)] at h) (by rwa [set_ne (by decide)] at h'), fun h => hM.r35 (by rwa [set_ne (by decide)] at h), fun h => hM.b7 (by rwa [set_ne (by decide)] at h)⟩, fun h => (ne_tf n22 (by rwa [set_ne (by decide)] at h)).elim⟩
      · obtain rfl := Option.some.inj ho
        have n22 : l[22]? = some false := not_yet (by rw [hl]; decide) (fun c => ne_tf hf (hcl 22 _ rfl c ⟨21, .data⟩ (by simp)))
        have hb := hI.bel
        obtain ⟨t16, t17, t18, t19, t20, t21, t22, t23, t24, t25, t26, t27, t28, t29, t30, t31, t32, t33, t34, t35, t36, t7, rfl, f0, f1, f3, f4, f7, f8, f9, f10, f12, f13, f14, f15, f16, f17, f20, fM, fF⟩ := hI.frame
        have hM := fM n22
        simp only [List.getElem_toArray, List.getElem_cons_succ, List.getElem_cons_zero] at hd ⊢
        clear ho
        have hM2 := hM.bel ((Bel.refl w').alloc #[.slice none 0 0, .int .i64 0, .slice none 0 0] 25)
        refine ⟨by rfl, ?_⟩
        unfold m3F
        go_simp
        exact hK _ _ ⟨hb.alloc _ _, t16, t17, t18, t19, t20, t21, t22, t23, t24, t25, t26, t27, t28, t29, t30, t31, t32, t33, t34, t35, t36, .pointer (some ⟨w'.heap.size, 0, none⟩), rfl, fun h => f0 (by rwa [set_ne (by decide)] at h), fun h => f1 (by rwa [set_ne (by decide)] at h), fun h => f3 (by rwa [set_ne (by decide)] at h), fun h => f4 (by rwa [set_ne (by decide)] at h), fun h => f7 (by rwa [set_ne (by decide)] at h), fun h => f8 (by rwa [set_ne (by decide)] at h), fun h => f9 (by rwa [set_ne (by decide)] at h), fun h => f10 (by rwa [set_ne (by decide)] at h), fun h => f12 (by rwa [set_ne (by decide)] at h), fun h => f13 (by rwa [set_ne (by decide)] at h), fun h => f14 (by rwa [set_ne (by decide)] at h), fun h => f15 (by rwa [set_ne (by decide)] at h), fun h => f16 (by rwa [set_ne (by decide)] at h), fun h => f17 (by rwa [set_ne (by decide)] at h), fun h => f20 (by rwa [set_ne (by decide)] at h), fun _ => ⟨fun h h' => hM2.r18 (by rwa [set_ne (by decide)] at h) (by rwa [set_ne (by decide)] at h'), fun h h' => hM2.b21 (by rwa [set_ne (by decide)] at h) (by rwa [set_ne (by decide)] at h'), fun h => hM2.r22 (by rwa [set_ne (by decide)] at h), fun h h' => hM2.r27 (by rwa [set_ne (by decide)] at h) (by rwa [set_ne (by decide)] at h'), fun h h' => hM2.b34 (by rwa [set_ne (by decide)] at h) (by rwa [set_ne (by decide)] at h'), fun h => hM2.r35 (by rwa [set_ne (by decide)] at h), fun _ => ⟨_, rfl, heap_alloc_new w' _, hb.size⟩⟩, fun h => (ne_tf n22 (by rwa [set_ne (by decide)] at h)).elim⟩
      · obtain rfl := Option.some.inj ho
        have hb := hI.bel
        obtain ⟨t16, t17, t18, t19, t20, t21, t22, t23, t24, t25, t26, t27, t28, t29, t30, t31, t32, t33, t34, t35, t36, t7, rfl, f0, f1, f3, f4, f7, f8, f9, f10, f12, f13, f14, f15, f16, f17, f20, fM, fF⟩ := hI.frame
        have hM := fM hf
        simp only [List.getElem_toArray, List.getElem_cons_succ, List.getElem_cons_zero] at hd ⊢
        clear ho
        obtain ⟨B, rfl, hB, hlo⟩ := hM.b7 (hd ⟨21, .data⟩ (by simp))
        have d19 := hd ⟨19, .chain⟩ (by simp)
        have d11 := hcl 19 _ rfl d19 ⟨11, .data⟩ (by simp)
        have d6 := hcl 11 _ rfl d11 ⟨6, .chain⟩ (by simp)
        have hR := hM.r22 d6
        have hT := hM.r35 d19
        obtain ⟨p2, c2, hv1, hp2, _⟩ := ERow.form (enc := icell) (k := 1) (fun _ => rfl) hR
        rw [show (m.words ++ [y]).length = m.words.length + 1 by simp] at hv1
        subst hv1
        obtain ⟨q2, d2, hv2, hq2, _⟩ := ERow.form (enc := scell) (k := 2) (fun _ => rfl) hT
        rw [show (m.syms ++ [(⟨tl3, 4 * ((m.words.length : Int) + 1)⟩ : Sym)]).length = m.syms.length + 1 by simp] at hv2
        subst hv2
        obtain rfl := f20 (hd ⟨20, .data⟩ (by simp))
        have hfz0 := frozen_of_heap hB 0
        have hfz1 := frozen_of_heap hB 1
        have hfz2 := frozen_of_heap hB 2
        have hc0 : w'.cell? ⟨B, 0, none⟩ = some (.slice none 0 0) := cell_of_heap hB 0
        have hc1 : w'.cell? ⟨B, 1, none⟩ = some (.int .i64 0) := cell_of_heap hB 1
        have hc2 : w'.cell? ⟨B, 2, none⟩ = some (.slice none 0 0) := cell_of_heap hB 2
        refine ⟨by rfl, ?_⟩
        unfold m3F
        go_simp
        refine hK _ _ ?_
        refine ⟨bel3 hb hlo _ _ _, t16, t17, t18, t19, t20, t21, .slice p2 (m.words.length + 1) c2, t23, t24, t25, t26, t27, t28, t29, t30, t31, t32, t33, t34, .slice q2 (m.syms.length + 1) d2, _, .pointer (some ⟨B, 0, none⟩), rfl, fun h => f0 (by rwa [set_ne (by decide)] at h), fun h => f1 (by rwa [set_ne (by decide)] at h), fun h => f3 (by rwa [set_ne (by decide)] at h), fun h => f4 (by rwa [set_ne (by decide)] at h), fun h => f7 (by rwa [set_ne (by decide)] at h), fun h => f8 (by rwa [set_ne (by decide)] at h), fun h => f9 (by rwa [set_ne (by decide)] at h), fun h => f10 (by rwa [set_ne (by decide)] at h), fun h => f12 (by rwa [set_ne (by decide)] at h), fun h => f13 (by rwa [set_ne (by decide)] at h), fun h => f14 (by rwa [set_ne (by decide)] at h), fun h => f15 (by rwa [set_ne (by decide)] at h), fun h => f16 (by rwa [set_ne (by decide)] at h), fun h => f17 (by rwa [set_ne (by decide)] at h), fun _ => rfl, fun h => (ne_tf h (set_eq hf)).elim, fun _ => ⟨B, p2, c2, q2, d2, rfl, ?_, ?_, ?_⟩⟩
        · rw [show boxV p2 q2 c2 d2 (moreV m y) = #[.slice p2 (m.words.length + 1) c2, .int .i64 m.mem, .slice q2 (m.syms.length + 1) d2] by unfold moreV; simp]
          exact set3 hB _ _ _
        · have h0 : ∀ qq, p2 = some qq → qq.block ≠ B := fun qq hq => own_blk hR hB (by decide) qq hq
          exact ((hp2.set h0 _).set h0 _).set h0 _
        · have h0 : ∀ qq, q2 = some qq → qq.block ≠ B := fun qq hq => own_blk hT hB (by decide) qq hq
          exact ((hq2.set h0 _).set h0 _).set h0 _

end Go.Proofs.YtojdpeokceebhaaGreatDoor
