/- An image's text. -/
import Derived.Test.YtbfmlbcjggplgaaGreatDoorIBld
import Derived.Deep.RegionHeld3
import Derived.Deep.DeepCutAuto
namespace Go.Proofs.YtbfmlbcjggplgaaGreatDoor
open Go.RowKit Im
set_option linter.unusedVariables false
/-- the text of the first k symbols, with the head -/
def bodyS (m : Img) (k : Nat) : Bs := headB m.mem ++ symsT (m.syms.take k)
theorem symsT_snoc (l : List Sym) (x : Sym) : symsT (l ++ [x]) = symsT l ++ symT x := by
  unfold symsT
  rw [List.flatMap_append]
  simp
theorem bodyS_succ {m : Img} {k : Nat} {x : Sym} (h : m.syms[k]? = some x) : bodyS m (k + 1) = bodyS m k ++ symT x := by
  unfold bodyS
  obtain ⟨hk, hx⟩ := List.getElem?_eq_some_iff.1 h
  rw [List.take_succ_eq_append_getElem hk, symsT_snoc, hx, List.append_assoc]
/-- the text up to the word k -/
def wordT (n k : Nat) (w : Int) : Bs := hex8 w ++ [if k % 8 = 7 ∨ k + 1 = n then 10 else 32]
def wordsK (n : Nat) : Nat → List Int → Bs
  | _, [] => []
  | k, w :: r => wordT n k w ++ wordsK n (k + 1) r
theorem wordsT_eq : ∀ (l : List Int) (i n : Nat), i + l.length = n → wordsT i l = wordsK n i l := by
  intro l
  induction l with
  | nil => intro i n h; rfl
  | cons w r ih =>
    intro i n h
    rw [List.length_cons] at h
    unfold wordsT wordsK wordT
    rw [ih (i + 1) n (by omega)]
    have : (i % 8 = 7 ∨ r.length = 0) ↔ (i % 8 = 7 ∨ i + 1 = n) := by omega
    simp only [this, List.append_assoc, List.singleton_append]
theorem wordsK_snoc : ∀ (l : List Int) (n i : Nat) (x : Int), wordsK n i (l ++ [x]) = wordsK n i l ++ wordT n (i + l.length) x := by
  intro l
  induction l with
  | nil => intro n i x; simp [wordsK]
  | cons w r ih =>
    intro n i x
    rw [List.cons_append, wordsK, wordsK, ih, List.append_assoc, List.length_cons, show i + 1 + r.length = i + (r.length + 1) by omega]
def bodyW (m : Img) (k : Nat) : Bs := bodyS m m.syms.length ++ codeB ++ wordsK m.words.length 0 (m.words.take k)
theorem bodyW_zero (m : Img) : bodyW m 0 = bodyS m m.syms.length ++ codeB := by
  unfold bodyW
  simp [wordsK]
theorem bodyW_succ {m : Img} {k : Nat} {x : Int} (h : m.words[k]? = some x) : bodyW m (k + 1) = bodyW m k ++ wordT m.words.length k x := by
  unfold bodyW
  obtain ⟨hk, hx⟩ := List.getElem?_eq_some_iff.1 h
  rw [List.take_succ_eq_append_getElem hk, wordsK_snoc, hx, List.length_take, Nat.min_eq_left (by omega), List.append_assoc, List.append_assoc, List.append_assoc, Nat.zero_add]
theorem bodyW_full (m : Img) : bodyW m m.words.length = body m := by
  unfold bodyW bodyS body
  rw [List.take_of_length_le (by omega), List.take_of_length_le (by omega), wordsT_eq m.words 0 m.words.length (by omega)]
  simp [List.append_assoc]
theorem bodyS_le (m : Img) (k : Nat) : (bodyS m k).length ≤ (body m).length := by
  unfold bodyS body symsT
  rw [List.length_append, List.length_append, List.length_append]
  have : ((m.syms.take k).flatMap symT).length ≤ (m.syms.flatMap symT).length := by
    have h := List.take_append_drop k m.syms
    have h2 : (m.syms.flatMap symT) = ((m.syms.take k).flatMap symT) ++ ((m.syms.drop k).flatMap symT) := by
      rw [← List.flatMap_append, h]
    rw [h2, List.length_append]
    omega
  omega
theorem wordsK_len (n : Nat) : ∀ (l : List Int) (i : Nat), (wordsK n i l).length = l.length * 9 := by
  intro l
  induction l with
  | nil => intro i; rfl
  | cons w r ih =>
    intro i
    rw [wordsK, List.length_append, ih, List.length_cons]
    show (hex8 w ++ [_]).length + _ = _
    rw [List.length_append, hex8_len, List.length_singleton]
    omega
theorem bodyW_le (m : Img) (k : Nat) : (bodyW m k).length ≤ (body m).length := by
  rw [← bodyW_full]
  unfold bodyW
  simp only [List.length_append, wordsK_len, List.length_take]
  omega
/-- a symbol in a block of its own -/
def S2c (xB : Nat) (xs : ByteArray) (xp : Int) (w' : World) : Prop := w'.cell? ⟨xB, 0, none⟩ = some (.string xs) ∧ w'.cell? ⟨xB, 1, none⟩ = some (.int .i64 xp)
theorem S2c.wrote {xB b : Nat} {xs : ByteArray} {xp : Int} {w w' w6 : World} {m : Bs} (_h : S2c xB xs xp w) (hx : xB ≠ b) (hb : Bel w6 w) (h6 : w6.heap[xB]? = some (.cells #[.string xs, .int .i64 xp] 42 (0, 0))) (hw : Wrote b b m w w') : S2c xB xs xp w' := by
  have h1 := hw.keeps (hb.stays h6) hx (by decide)
  exact ⟨cell_of_heap h1 0, cell_of_heap h1 1⟩
/-- where a walk of body stands -/
def BodySt (w : World) (bx b : Nat) (box : Array Value) (T : Bs) (W : World) : Prop := BAt b b T W ∧ Bel w W ∧ W.heap[bx]? = some (.cells box 25 (0, 0)) ∧ b ≤ W.heap.size ∧ bx < b ∧ w.heap.size ≤ b
theorem BodySt.bel {w : World} {bx b : Nat} {box : Array Value} {T : Bs} {W W' : World} (h : BodySt w bx b box T W) (hb : Bel W W') : BodySt w bx b box T W' :=
  ⟨h.1.bel hb, h.2.1.trans hb, hb.stays h.2.2.1, Nat.le_trans h.2.2.2.1 hb.size, h.2.2.2.2⟩
theorem BodySt.wrote {w : World} {bx b : Nat} {box : Array Value} {T T' : Bs} {W W' : World} (h : BodySt w bx b box T W) (hw : Wrote b b T' W W') : BodySt w bx b box T' W' :=
  ⟨hw.1, Below.trans h.2.1 (Below.mono hw.2.1 h.2.2.2.2.2), (Below.block hw.2.1 bx h.2.2.2.2.1).trans h.2.2.1, Nat.le_trans h.2.2.2.1 hw.2.1.size, h.2.2.2.2⟩
set_option maxRecDepth 100000 in
set_option maxHeartbeats 8000000 in
theorem body_lit {wp sp : Option Addr} {wc sc : Nat} {m : Img} {S : ByteArray} (hS : str (body m) = S) (hlen : (body m).length ≤ 1000000000) (w : World) (H : Hid (ImgAt w wp sp m)) (hP : PowAt w) :
    Calls Tryz.prog 20 #[imgV wp sp wc sc m] w fun e w' => e = .returned (.string S) ∧ Bel w w' := by
  have HS := Lib.hid hS
  have HL := Lib.hid hlen
  have HP := Lib.hid hP
  have lw := H.out.lw
  have ls := H.out.ls
  obtain ⟨m1, m2⟩ := H.out.mem
  clear hS hlen hP
  obtain ⟨D, hD⟩ : ∃ D, str (Lib.itoa m.mem) = D := ⟨_, rfl⟩
  have HD := Lib.hid hD
  clear hD
  go_enter Tryz.func20, Tryz.ntmps20
  go_wp2_with fail
  have hbx := heap_alloc_new w (.cells #[.slice wp m.words.length wc, .int .i64 m.mem, .slice sp m.syms.length sc] 25)
  have hb1 := (Bel.refl w).alloc #[.slice wp m.words.length wc, .int .i64 m.mem, .slice sp m.syms.length sc] 25
  have hsz : (w.alloc (.cells #[.slice wp m.words.length wc, .int .i64 m.mem, .slice sp m.syms.length sc] 25)).heap.size = w.heap.size + 1 := by simp
  generalize w.alloc (.cells #[.slice wp m.words.length wc, .int .i64 m.mem, .slice sp m.syms.length sc] 25) = W1 at hbx hb1 hsz ⊢
  have hbl := new_builder W1
  have hb2 := (Bel.refl W1).alloc #[.pointer none, .slice none 0 0] 63
  have hs2 : (W1.alloc (.cells #[.pointer none, .slice none 0 0] 63)).heap.size = W1.heap.size + 1 := by simp
  generalize W1.alloc (.cells #[.pointer none, .slice none 0 0] 63) = W2 at hbl hb2 hs2 ⊢
  rw [← hsz]
  obtain ⟨bx, hbxe⟩ : ∃ b, b = w.heap.size := ⟨_, rfl⟩
  obtain ⟨b, hbe⟩ : ∃ b, b = W1.heap.size := ⟨_, rfl⟩
  have HST : Hid (BodySt w bx b #[.slice wp m.words.length wc, .int .i64 m.mem, .slice sp m.syms.length sc] [] W2) := ⟨by rw [hbe]; exact hbl, hb1.trans hb2, by rw [hbxe]; exact hb2.stays hbx, by omega, by omega, by omega⟩
  rw [← hbxe, ← hbe]
  clear hbx hb1 hsz hbl hb2 hs2 hbxe hbe
  refine (itoa_lit HD.out m1 m2 _ (HP.out.bel HST.out.2.1)).mono ?_
  rintro e W3 ⟨rfl, hb⟩
  have HST := Lib.hid (HST.out.bel hb)
  clear hb
  have e1 : (⟨#[105, 109, 97, 103, 101, 32]⟩ ++ D : ByteArray) ++ ⟨#[10]⟩ = str (bodyS m 0) := by
    rw [← HD.out, show (⟨#[105, 109, 97, 103, 101, 32]⟩ : ByteArray) = str [105, 109, 97, 103, 101, 32] from rfl, show (⟨#[10]⟩ : ByteArray) = str [10] from rfl, str_app, str_app]
    congr 1
    simp [bodyS, headB, symsT]
  have hle := bodyS_le m 0
  have hL0 : (bodyS m 0).length ≤ 1000000000 := Nat.le_trans hle HL.out
  have z : D.size ≤ 1000000000 := by
    have := congrArg ByteArray.size e1
    rw [ByteArray.size_append, ByteArray.size_append, str_size] at this
    omega
  have z1 : (⟨#[105, 109, 97, 103, 101, 32]⟩ : ByteArray).size + D.size ≤ 9223372036854775807 := by show 6 + D.size ≤ _; omega
  have z2 : (⟨#[105, 109, 97, 103, 101, 32]⟩ ++ D : ByteArray).size + (⟨#[10]⟩ : ByteArray).size ≤ 9223372036854775807 := by rw [ByteArray.size_append]; show 6 + D.size + 1 ≤ _; omega
  have HE1 : Hid (([] : Bs) ++ ((⟨#[105, 109, 97, 103, 101, 32]⟩ ++ D : ByteArray) ++ ⟨#[10]⟩).data.toList = bodyS m 0) := Lib.hid (by rw [e1, str_list]; rfl)
  have HL0 := Lib.hid hL0
  clear e1 hle hL0 z
  go_wp2_with fail
  refine (write_str HE1.out _ HST.out.1 HL0.out HST.out.2.2.2.1).mono ?_
  rintro e W4 ⟨rfl, hw⟩
  have HST := Lib.hid (HST.out.wrote hw)
  clear hw z1 z2
  have q1 := cell_of_heap HST.out.2.2.1 2
  simp only [List.getElem?_toArray, List.getElem?_cons_zero, List.getElem?_cons_succ] at q1
  go_wp2_with fail
  clear q1
  go_loopw [17] (fun i wr => ∃ k : Nat, k ≤ m.syms.length ∧ i = .int .i64 k ∧ Hid (BodySt w bx b #[.slice wp m.words.length wc, .int .i64 m.mem, .slice sp m.syms.length sc] (bodyS m k) wr)) (fun i _ => m.syms.length - (intOf i).toNat)
  case atStart => exact ⟨0, Nat.zero_le _, rfl, HST.out⟩
  case round =>
    obtain ⟨k, hk, rfl, HA⟩ := hrel
    by_cases hlt : k < m.syms.length
    · obtain ⟨⟨xs, xp⟩, hx⟩ : ∃ x, m.syms[k]? = some x := ⟨_, List.getElem?_eq_getElem hlt⟩
      obtain ⟨b0, o0, hspe, hbl, e1, e2⟩ := SymsQ.get (H.out.syms.bel HA.out.2.1) hx
      subst hspe
      simp only at e1 e2
      have hk' : (k : Int) < (m.syms.length : Int) := by omega
      have HXP := Lib.hid (H.out.wfs _ (List.mem_of_getElem? hx)).2
      have hsu := bodyS_succ hx
      have hle := bodyS_le m (k + 1)
      have HLT := Lib.hid hlt
      obtain ⟨X8, hX8⟩ : ∃ X, str (hex8 xp) = X := ⟨_, rfl⟩
      have hz8 : X8.size = 8 := by rw [← hX8]; rfl
      have hsz : xs.size ≤ 1000000000 := by
        have h1 := Nat.le_trans hle HL.out
        rw [hsu, List.length_append] at h1
        have h2 : (symT ⟨xs, xp⟩).length = 8 + (1 + (xs.size + 1)) := by
          show (hex8 xp ++ (32 :: (xs.data.toList ++ [10]))).length = _
          rw [List.length_append, List.length_cons, List.length_append, size_list, hex8_len, List.length_singleton]
          omega
        omega
      have z1 : X8.size + (⟨#[32]⟩ : ByteArray).size ≤ 9223372036854775807 := by rw [hz8]; decide
      have z2 : (X8 ++ ⟨#[32]⟩ : ByteArray).size + xs.size ≤ 9223372036854775807 := by rw [ByteArray.size_append, hz8]; show 8 + 1 + xs.size ≤ _; omega
      have z3 : (X8 ++ ⟨#[32]⟩ ++ xs : ByteArray).size + (⟨#[10]⟩ : ByteArray).size ≤ 9223372036854775807 := by rw [ByteArray.size_append, ByteArray.size_append, hz8]; show 8 + 1 + xs.size + 1 ≤ _; omega
      have z4 : ¬ 9223372036854775807 < X8.size + 1 := by omega
      have z5 : ¬ 9223372036854775807 < X8.size + 1 + xs.size := by omega
      have z6 : ¬ 9223372036854775807 < X8.size + 1 + xs.size + 1 := by omega
      have HE2 : Hid (bodyS m k ++ ((X8 ++ ⟨#[32]⟩ ++ xs : ByteArray) ++ ⟨#[10]⟩).data.toList = bodyS m (k + 1)) := Lib.hid (by
        have : (X8 ++ ⟨#[32]⟩ ++ xs : ByteArray) ++ ⟨#[10]⟩ = str (symT ⟨xs, xp⟩) := by
          rw [← hX8, ← str_of xs, show (⟨#[32]⟩ : ByteArray) = str [32] from rfl, show (⟨#[10]⟩ : ByteArray) = str [10] from rfl, str_app, str_app, str_app]
          simp [symT, str_list]
        rw [this, str_list, hsu])
      have HLK : Hid ((bodyS m (k + 1)).length ≤ 1000000000) := Lib.hid (Nat.le_trans hle HL.out)
      have HX8 := Lib.hid hX8
      clear hx hlt hsu hle hX8 hz8 hsz
      go_upto_region 6 with (fail)
      have hx6 := heap_alloc_new wr (.cells #[.string xs, .int .i64 xp] 42)
      have hb6 := (Bel.refl wr).alloc #[.string xs, .int .i64 xp] 42
      generalize wr.alloc (.cells #[.string xs, .int .i64 xp] 42) = W6 at hx6 hb6 ⊢
      obtain ⟨xB, hxB⟩ : ∃ q, q = wr.heap.size := ⟨_, rfl⟩
      rw [← hxB] at hx6 ⊢
      have HST6 := Lib.hid (HA.out.bel hb6)
      have HX6 := Lib.hid hx6
      have HXB : Hid (xB ≠ b) := Lib.hid (by
        have h1 := HA.out
        rcases h1.1 with ⟨_, v, h2, _⟩ | ⟨_, v, h2, _⟩ <;> (have := lt_of_heap h2; omega))
      have HSC : Hid (∀ W, Bel W6 W → S2c xB xs xp W) := Lib.hid (fun W h => ⟨cell_of_heap (h.stays HX6.out) 0, cell_of_heap (h.stays HX6.out) 1⟩)
      clear hx6 hb6 hxB e1 e2 hbl
      refine wp_region_held_drew (S := S2c xB xs xp) (by kernel_rfl) (HSC.out _ (Bel.refl _).drew) (fun hS => ?_)
      refine takeD 21 (i := 0) (v := ?v1) rfl rfl (by kernel_rfl) (by kernel_rfl) (by kernel_rfl) (fun _ _ _ h => h) (by kernel_rfl) ?hy1 hS ?rest1
      case hy1 => (intro w0 hSw; obtain ⟨s0, s1⟩ := hSw; first | (go_simp; done) | (go_simp; with_reducible rfl))
      simp only [List.setIfInBounds_toArray, List.set_cons_zero, List.set_cons_succ]
      refine takeD 22 (i := 1) (v := ?v2) rfl rfl (by kernel_rfl) (by kernel_rfl) (by kernel_rfl) (fun _ _ _ h => h) (by kernel_rfl) ?hy2 hS ?rest2
      case hy2 => (intro w0 hSw; obtain ⟨s0, s1⟩ := hSw; first | (go_simp; done) | (go_simp; with_reducible rfl))
      simp only [List.setIfInBounds_toArray, List.set_cons_zero, List.set_cons_succ]
      refine takeD 25 (i := 4) (v := ?v3) rfl rfl (by kernel_rfl) (by kernel_rfl) (by kernel_rfl) (fun _ _ _ h => h) (by kernel_rfl) ?hy3 hS ?rest3
      case hy3 => (intro w0 hSw; obtain ⟨s0, s1⟩ := hSw; first | (go_simp; done) | (go_simp; with_reducible rfl))
      simp only [List.setIfInBounds_toArray, List.set_cons_zero, List.set_cons_succ]
      refine takeD 26 (i := 5) (v := ?v4) rfl rfl (by kernel_rfl) (by kernel_rfl) (by kernel_rfl) (fun _ _ _ h => h) (by kernel_rfl) ?hy4 hS ?rest4
      case hy4 => (intro w0 hSw; obtain ⟨s0, s1⟩ := hSw; first | (go_simp; done) | (go_simp; with_reducible rfl))
      simp only [List.setIfInBounds_toArray, List.set_cons_zero, List.set_cons_succ]
      refine onlyD 23 (i := 2) rfl rfl (by kernel_rfl) (by kernel_rfl) (fun K hK => ?_)
      go_simp
      go_at_call 40
      refine (digits_lit HX8.out HXP.out.1 HXP.out.2 _).mono ?_
      rintro e w7 ⟨rfl, hb7⟩
      have hB7 : Bel W6 w7 := Bel.trans (Bel.drew (Bel.refl W6)) hb7
      have hS2 := HSC.out w7 hB7
      refine hK.out _ _ hS2 (fun _ => ?_)
      clear hK K hb7
      refine takeD 24 (i := 3) (v := ?v5) rfl rfl (by kernel_rfl) (by kernel_rfl) (by kernel_rfl) (fun _ _ _ h => h) (by kernel_rfl) ?hy5 hS2 ?rest5
      case hy5 => (intro w0 hSw; obtain ⟨s0, s1⟩ := hSw; first | (go_simp; done) | (go_simp; with_reducible rfl))
      simp only [List.setIfInBounds_toArray, List.set_cons_zero, List.set_cons_succ]
      refine takeD 27 (i := 6) (v := ?v6) rfl rfl (by kernel_rfl) (by kernel_rfl) (by kernel_rfl) (fun _ _ _ h => h) (by kernel_rfl) ?hy6 hS2 ?rest6
      case hy6 => (intro w0 hSw; obtain ⟨s0, s1⟩ := hSw; first | (go_simp; done) | (go_simp; with_reducible rfl))
      simp only [List.setIfInBounds_toArray, List.set_cons_zero, List.set_cons_succ]
      refine takeD 28 (i := 7) (v := ?v7) rfl rfl (by kernel_rfl) (by kernel_rfl) (by kernel_rfl) (fun _ _ _ h => h) (by kernel_rfl) ?hy7 hS2 ?rest7
      case hy7 => (intro w0 hSw; obtain ⟨s0, s1⟩ := hSw; first | (go_simp; done) | (go_simp; with_reducible rfl))
      simp only [List.setIfInBounds_toArray, List.set_cons_zero, List.set_cons_succ]
      refine onlyD 29 (i := 8) rfl rfl (by kernel_rfl) (by kernel_rfl) (fun K hK => ?_)
      go_simp
      go_at_call 38
      have HST7 := Lib.hid (HST6.out.bel hB7)
      refine (write_str HE2.out _ HST7.out.1 HLK.out HST7.out.2.2.2.1).mono ?_
      rintro e w8 ⟨rfl, hw⟩
      have hS3 : S2c xB xs xp w8 := S2c.wrote hS2 HXB.out hB7 HX6.out hw
      have HST8 := Lib.hid (HST7.out.wrote hw)
      refine hK.out _ _ hS3 (fun _ => ?_)
      clear hK K hw hB7 hS hS2 hS3 z1 z2 z3 z4 z5 z6
      refine wpAnyH_done (by kernel_rfl) ?_ _
      go_wp2_with fail
      go_roundw
      case rel => exact ⟨k + 1, HLT.out, by go_num, HST8.out⟩
      case measure => simp [intOf]; have := HLT.out; omega
    · obtain rfl : k = m.syms.length := by omega
      clear hlt hk
      have HST := Lib.hid HA.out
      clear HA
      obtain ⟨wq, rfl⟩ : ∃ W, W = wr := ⟨_, rfl⟩
      go_wp2_with fail
      have HWC : Hid (bodyS m m.syms.length ++ (⟨#[99, 111, 100, 101, 10]⟩ : ByteArray).data.toList = bodyW m 0) := Lib.hid (by rw [bodyW_zero]; rfl)
      refine (write_str HWC.out _ HST.out.1 (Nat.le_trans (bodyW_le m 0) HL.out) HST.out.2.2.2.1).mono ?_
      rintro e W5 ⟨rfl, hw⟩
      have HST := Lib.hid (HST.out.wrote hw)
      clear hw
      have q1 := cell_of_heap HST.out.2.2.1 0
      simp only [List.getElem?_toArray, List.getElem?_cons_zero] at q1
      go_wp2_with fail
      clear q1
      go_loopw [35] (fun i wr => ∃ k : Nat, k ≤ m.words.length ∧ i = .int .i64 k ∧ Hid (BodySt w bx b #[.slice wp m.words.length wc, .int .i64 m.mem, .slice sp m.syms.length sc] (bodyW m k) wr)) (fun i _ => m.words.length - (intOf i).toNat)
      case atStart => exact ⟨0, Nat.zero_le _, rfl, HST.out⟩
      case round =>
        obtain ⟨k, hk, rfl, HA⟩ := hrel
        by_cases hlt : k < m.words.length
        · obtain ⟨x, hx⟩ : ∃ x, m.words[k]? = some x := ⟨_, List.getElem?_eq_getElem hlt⟩
          obtain ⟨b0, o0, hspe, hbl, e1⟩ := IntsQ.get (H.out.words.bel HA.out.2.1) hx
          subst hspe
          have hk' : (k : Int) < (m.words.length : Int) := by omega
          have HXP := Lib.hid (H.out.wfw _ (List.mem_of_getElem? hx))
          have hsu := bodyW_succ hx
          have hle := Nat.le_trans (bodyW_le m (k + 1)) HL.out
          have HLT := Lib.hid hlt
          obtain ⟨X8, hX8⟩ : ∃ X, str (hex8 x) = X := ⟨_, rfl⟩
          have HX8 := Lib.hid hX8
          have HM1 : Hid (bodyW m k ++ X8.data.toList = bodyW m k ++ hex8 x) := Lib.hid (by rw [← hX8, str_list])
          have hle1 : (bodyW m k ++ hex8 x).length ≤ 1000000000 := by
            rw [hsu] at hle
            unfold wordT at hle
            simp only [List.length_append] at hle ⊢
            omega
          have HLE := Lib.hid hle
          have HLE1 := Lib.hid hle1
          clear hx hX8 hle hle1 hbl
          have hb4 : k % 8 = 7 ∨ ¬ k % 8 = 7 := by omega
          rcases hb4 with h7 | h7
          · have HM2 : Hid ((bodyW m k ++ hex8 x) ++ [10] = bodyW m (k + 1)) := Lib.hid (by rw [hsu, wordT, if_pos (Or.inl h7), List.append_assoc])
            have v7 : ((k : Int) % 8 == 7) = true := by rw [beq_iff_eq]; omega
            clear hsu h7 hlt
            go_wp2_with fail
            refine (digits_lit HX8.out HXP.out.1 HXP.out.2 _).mono ?_
            rintro e w7 ⟨rfl, hb7⟩
            have HST2 := Lib.hid (HA.out.bel hb7)
            clear hb7
            go_wp2_with fail
            refine (write_str HM1.out _ HST2.out.1 HLE1.out HST2.out.2.2.2.1).mono ?_
            rintro e w8 ⟨rfl, hw⟩
            have HST3 := Lib.hid (HST2.out.wrote hw)
            clear hw e1
            have q3 := cell_of_heap HST3.out.2.2.1 0
            simp only [List.getElem?_toArray, List.getElem?_cons_zero] at q3
            go_wp2_with fail
            refine (write_byte HM2.out _ HST3.out.1 HLE.out HST3.out.2.2.2.1).mono ?_
            rintro e w9 ⟨rfl, hw2⟩
            have HST4 := Lib.hid (HST3.out.wrote hw2)
            clear hw2 v7 q3
            go_wp2_with fail
            go_roundw
            case rel => exact ⟨k + 1, HLT.out, by go_num, HST4.out⟩
            case measure => simp [intOf]; have := HLT.out; omega
          · have v7 : ((k : Int) % 8 == 7) = false := by rw [beq_eq_false_iff_ne]; omega
            by_cases hend : k + 1 = m.words.length
            · have HM2 : Hid ((bodyW m k ++ hex8 x) ++ [10] = bodyW m (k + 1)) := Lib.hid (by rw [hsu, wordT, if_pos (Or.inr hend), List.append_assoc])
              have ve : ((k : Int) == (m.words.length : Int) - 1) = true := by rw [beq_iff_eq]; omega
              clear hsu h7 hlt hend
              go_wp2_with fail
              refine (digits_lit HX8.out HXP.out.1 HXP.out.2 _).mono ?_
              rintro e w7 ⟨rfl, hb7⟩
              have HST2 := Lib.hid (HA.out.bel hb7)
              clear hb7
              go_wp2_with fail
              refine (write_str HM1.out _ HST2.out.1 HLE1.out HST2.out.2.2.2.1).mono ?_
              rintro e w8 ⟨rfl, hw⟩
              have HST3 := Lib.hid (HST2.out.wrote hw)
              clear hw e1
              have q3 := cell_of_heap HST3.out.2.2.1 0
              simp only [List.getElem?_toArray, List.getElem?_cons_zero] at q3
              go_wp2_with fail
              refine (write_byte HM2.out _ HST3.out.1 HLE.out HST3.out.2.2.2.1).mono ?_
              rintro e w9 ⟨rfl, hw2⟩
              have HST4 := Lib.hid (HST3.out.wrote hw2)
              clear hw2 v7 ve q3
              go_wp2_with fail
              go_roundw
              case rel => exact ⟨k + 1, HLT.out, by go_num, HST4.out⟩
              case measure => simp [intOf]; have := HLT.out; omega
            · have HM2 : Hid ((bodyW m k ++ hex8 x) ++ [32] = bodyW m (k + 1)) := Lib.hid (by rw [hsu, wordT, if_neg (by omega), List.append_assoc])
              have ve : ((k : Int) == (m.words.length : Int) - 1) = false := by rw [beq_eq_false_iff_ne]; omega
              clear hsu h7 hlt hend
              go_wp2_with fail
              refine (digits_lit HX8.out HXP.out.1 HXP.out.2 _).mono ?_
              rintro e w7 ⟨rfl, hb7⟩
              have HST2 := Lib.hid (HA.out.bel hb7)
              clear hb7
              go_wp2_with fail
              refine (write_str HM1.out _ HST2.out.1 HLE1.out HST2.out.2.2.2.1).mono ?_
              rintro e w8 ⟨rfl, hw⟩
              have HST3 := Lib.hid (HST2.out.wrote hw)
              clear hw e1
              have q3 := cell_of_heap HST3.out.2.2.1 0
              simp only [List.getElem?_toArray, List.getElem?_cons_zero] at q3
              go_wp2_with fail
              refine (write_byte HM2.out _ HST3.out.1 HLE.out HST3.out.2.2.2.1).mono ?_
              rintro e w9 ⟨rfl, hw2⟩
              have HST4 := Lib.hid (HST3.out.wrote hw2)
              clear hw2 v7 ve q3
              go_wp2_with fail
              go_roundw
              case rel => exact ⟨k + 1, HLT.out, by go_num, HST4.out⟩
              case measure => simp [intOf]; have := HLT.out; omega
        · obtain rfl : k = m.words.length := by omega
          clear hlt hk
          have HST := Lib.hid HA.out
          clear HA
          have HSF : Hid (str (bodyW m m.words.length) = S) := Lib.hid (by rw [bodyW_full]; exact HS.out)
          go_wp2_with fail
          refine (read_str HSF.out _ HST.out.1 HST.out.2.2.2.1).mono ?_
          rintro e w9 ⟨rfl, hb⟩
          have HB9 : Hid (Bel w w9) := Lib.hid (Below.trans HST.out.2.1 (Below.mono hb HST.out.2.2.2.2.2))
          clear hb
          go_wp2_with fail
          go_ret
          exact ⟨rfl, HB9.out⟩
end Go.Proofs.YtbfmlbcjggplgaaGreatDoor
