/- Which images may be. -/
import Derived.Test.YtbfmlbcjggplgaaGreatDoorINam
import Derived.BigQuiet
import Derived.Laws.Cover1
import Derived.Deep.RegionHeld3
import Derived.Deep.DeepCutAuto
import Derived.Deep.CutBlock
import Derived.Test.YtbfmlbcjggplgaaGreatDoorIDig
namespace Go.Proofs.YtbfmlbcjggplgaaGreatDoor.Im
/-- does a text stand ahead of another, byte by byte? -/
def less (a b : ByteArray) : Bool := Op.bytesLess a.toList b.toList
/-- is the name before this one ahead of it? -/
def prevOk (m : Img) (s : ByteArray) : Nat → Bool
  | 0 => true
  | j + 1 => match m.syms[j]? with
    | none => true
    | some y => less y.name s
def symOk (m : Img) (i : Nat) : Bool := match m.syms[i]? with
  | none => true
  | some x => isLab x.name && isPl x.place m.words.length && prevOk m x.name i
def right (m : Img) : Bool := decide (m.words.length ≤ 65536) && decide (m.syms.length ≤ 1000) && decide (0 ≤ m.mem ∧ m.mem ≤ 4096) && m.words.all isWd && (List.range m.syms.length).all (symOk m)
end Go.Proofs.YtbfmlbcjggplgaaGreatDoor.Im
namespace Go.Proofs.YtbfmlbcjggplgaaGreatDoor
open Go.RowKit Im
set_option linter.unusedVariables false
def S12 (bx xB : Nat) (wp sp : Option Addr) (wc sc : Nat) (m : Img) (xs : ByteArray) (xp : Int) (w' : World) : Prop := w'.cell? ⟨bx, 0, none⟩ = some (.slice wp m.words.length wc) ∧ w'.cell? ⟨bx, 2, none⟩ = some (.slice sp m.syms.length sc) ∧ w'.cell? ⟨xB, 0, none⟩ = some (.string xs) ∧ w'.cell? ⟨xB, 1, none⟩ = some (.int .i64 xp)
def S12p (bx xB : Nat) (wp sp : Option Addr) (wc sc : Nat) (m : Img) (xs : ByteArray) (xp : Int) (b o : Nat) (ys : ByteArray) (w' : World) : Prop := w'.cell? ⟨bx, 0, none⟩ = some (.slice wp m.words.length wc) ∧ w'.cell? ⟨bx, 2, none⟩ = some (.slice sp m.syms.length sc) ∧ w'.cell? ⟨xB, 0, none⟩ = some (.string xs) ∧ w'.cell? ⟨xB, 1, none⟩ = some (.int .i64 xp) ∧ w'.cell? ⟨b, o, none⟩ = some (.string ys)
theorem right_no {m : Img} (h : ¬ m.words.length ≤ 65536 ∨ ¬ m.syms.length ≤ 1000 ∨ ¬ 0 ≤ m.mem ∨ ¬ m.mem ≤ 4096) : right m = false := by
  unfold right
  rcases h with h | h | h | h
  · rw [decide_eq_false h]; rfl
  · rw [decide_eq_false h]; simp
  · rw [decide_eq_false (show ¬ (0 ≤ m.mem ∧ m.mem ≤ 4096) from fun c => h c.1)]; simp
  · rw [decide_eq_false (show ¬ (0 ≤ m.mem ∧ m.mem ≤ 4096) from fun c => h c.2)]; simp
theorem right_word {m : Img} {j : Nat} {x : Int} (hj : m.words[j]? = some x) (hx : isWd x = false) : right m = false := by
  have : m.words.all isWd = false := by
    cases h : m.words.all isWd with
    | false => rfl
    | true =>
      rw [List.all_eq_true] at h
      have := h x (List.mem_of_getElem? hj)
      rw [hx] at this
      cases this
  unfold right
  rw [this]
  simp
theorem right_sym {m : Img} {j : Nat} (hj : j < m.syms.length) (hx : symOk m j = false) : right m = false := by
  have : (List.range m.syms.length).all (symOk m) = false := by
    cases h : (List.range m.syms.length).all (symOk m) with
    | false => rfl
    | true =>
      rw [List.all_eq_true] at h
      have := h j (List.mem_range.2 hj)
      rw [hx] at this
      cases this
  unfold right
  rw [this]
  simp
theorem right_yes {m : Img} (h1 : m.words.length ≤ 65536) (h2 : m.syms.length ≤ 1000) (h3 : 0 ≤ m.mem) (h4 : m.mem ≤ 4096) (h5 : ∀ (j : Nat) (x : Int), m.words[j]? = some x → isWd x = true) (h6 : ∀ j : Nat, j < m.syms.length → symOk m j = true) : right m = true := by
  have h7 : m.words.all isWd = true := List.all_eq_true.2 fun x hx => by
    obtain ⟨j, hj⟩ := List.getElem?_of_mem hx
    exact h5 j x hj
  have h8 : (List.range m.syms.length).all (symOk m) = true := List.all_eq_true.2 fun j hj => h6 j (List.mem_range.1 hj)
  unfold right
  rw [decide_eq_true h1, decide_eq_true h2, decide_eq_true ⟨h3, h4⟩, h7, h8]
  rfl
set_option maxRecDepth 100000 in
set_option maxHeartbeats 40000000 in
set_option linter.unusedSimpArgs false in
theorem imgRight_any (wp sp : Option Addr) (wc sc : Nat) (m : Img) (w : World) (H : Hid (ImgAt w wp sp m)) :
    Calls Tryz.prog 9 #[.agg #[.slice wp m.words.length wc, .int .i64 m.mem, .slice sp m.syms.length sc]] w fun e w' => e = .returned (.bool (right m)) ∧ Bel w w' := by
  have lw := H.out.lw
  have ls := H.out.ls
  obtain ⟨m1, m2⟩ := H.out.mem
  by_cases h1 : ¬ m.words.length ≤ 65536
  · rw [right_no (Or.inl h1)]
    have h1' : (65536 : Int) < (m.words.length : Int) := by omega
    go_enter Tryz.func9, Tryz.ntmps9
    go_wp2_with fail
    go_ret
    exact ⟨rfl, (Bel.refl _).alloc _ _⟩
  have t1 : decide ((65536 : Int) < (m.words.length : Int)) = false := decide_eq_false (by omega)
  by_cases h2 : ¬ m.syms.length ≤ 1000
  · rw [right_no (Or.inr (Or.inl h2))]
    have h2' : (1000 : Int) < (m.syms.length : Int) := by omega
    go_enter Tryz.func9, Tryz.ntmps9
    go_wp2_with fail
    go_ret
    exact ⟨rfl, (Bel.refl _).alloc _ _⟩
  have t2 : decide ((1000 : Int) < (m.syms.length : Int)) = false := decide_eq_false (by omega)
  by_cases h3 : ¬ 0 ≤ m.mem
  · rw [right_no (Or.inr (Or.inr (Or.inl h3)))]
    have h3' : m.mem < 0 := by omega
    go_enter Tryz.func9, Tryz.ntmps9
    go_wp2_with fail
    go_ret
    exact ⟨rfl, (Bel.refl _).alloc _ _⟩
  have t3 : decide (m.mem < 0) = false := decide_eq_false (by omega)
  by_cases h4 : ¬ m.mem ≤ 4096
  · rw [right_no (Or.inr (Or.inr (Or.inr h4)))]
    have h4' : 4096 < m.mem := by omega
    go_enter Tryz.func9, Tryz.ntmps9
    go_wp2_with fail
    go_ret
    exact ⟨rfl, (Bel.refl _).alloc _ _⟩
  have t4 : decide (4096 < m.mem) = false := decide_eq_false (by omega)
  go_enter Tryz.func9, Tryz.ntmps9
  go_wp2_with fail
  have hbx := heap_alloc_new w (.cells #[.slice wp m.words.length wc, .int .i64 m.mem, .slice sp m.syms.length sc] 25)
  have hb0 := (Bel.refl w).alloc #[.slice wp m.words.length wc, .int .i64 m.mem, .slice sp m.syms.length sc] 25
  generalize w.alloc (.cells #[.slice wp m.words.length wc, .int .i64 m.mem, .slice sp m.syms.length sc] 25) = W0 at hbx hb0 ⊢
  obtain ⟨bx, hbxe⟩ : ∃ b, b = w.heap.size := ⟨_, rfl⟩
  rw [← hbxe] at hbx ⊢
  clear hbxe
  have HBX := Lib.hid hbx
  have HB0 := Lib.hid hb0
  clear hbx hb0 t1 t2 t3 t4
  obtain ⟨R, hR⟩ : ∃ r, right m = r := ⟨_, rfl⟩
  have HRR := Lib.hid hR
  have h1 : m.words.length ≤ 65536 := by omega
  have h2 : m.syms.length ≤ 1000 := by omega
  have h3 : 0 ≤ m.mem := by omega
  have h4 : m.mem ≤ 4096 := by omega
  go_loopw [30] (fun i wr => ∃ k : Nat, k ≤ m.words.length ∧ i = .int .i64 k ∧ Hid (Bel W0 wr ∧ ∀ (j : Nat) (x : Int), j < k → m.words[j]? = some x → isWd x = true)) (fun i _ => m.words.length - (intOf i).toNat)
  case atStart => exact ⟨0, Nat.zero_le _, rfl, Bel.refl _, fun j x hj => by omega⟩
  case round =>
    obtain ⟨k, hk, rfl, HA⟩ := hrel
    by_cases hlt : k < m.words.length
    · obtain ⟨x, hx⟩ : ∃ x, m.words[k]? = some x := ⟨_, List.getElem?_eq_getElem hlt⟩
      obtain ⟨b, o, rfl, _, e1⟩ := IntsQ.get (H.out.words.bel (HB0.out.trans HA.out.1)) hx
      have hk' : (k : Int) < (m.words.length : Int) := by omega
      have HX := Lib.hid hx
      have HLT := Lib.hid hlt
      obtain ⟨r, hr⟩ : ∃ r, isWd x = r := ⟨_, rfl⟩
      have HQ := Lib.hid hr
      clear hx hlt hr
      cases r with
      | true =>
        have HN9 : Hid (Bel W0 wr ∧ ∀ (j : Nat) (x : Int), j < k + 1 → m.words[j]? = some x → isWd x = true) := ⟨HA.out.1, fun j y hj hy => by
          by_cases e : j = k
          · subst e
            rw [HX.out] at hy
            obtain rfl := Option.some.inj hy
            exact HQ.out
          · exact HA.out.2 j y (by omega) hy⟩
        go_wp2_with (go_at_call 25; ((with_reducible refine (isWord_lit HQ.out _).mono ?_); rintro e w' ⟨rfl, rfl⟩))
        go_roundw
        case rel => exact ⟨k + 1, HLT.out, by go_num, HN9.out⟩
        case measure => simp [intOf]; have := HLT.out; omega
      | false =>
        have HF := Lib.hid (right_word HX.out HQ.out)
        go_wp2_with (go_at_call 25; ((with_reducible refine (isWord_lit HQ.out _).mono ?_); rintro e w' ⟨rfl, rfl⟩))
        go_ret
        exact ⟨rb (by first | exact HF.out.symm | exact HF.out.symm.trans HRR.out), HB0.out.trans HA.out.1⟩
    · obtain rfl : k = m.words.length := by omega
      have HWD := Lib.hid (show ∀ (j : Nat) (x : Int), m.words[j]? = some x → isWd x = true from fun j x hj => HA.out.2 j x (List.getElem?_eq_some_iff.1 hj).1 hj)
      have HB1 := Lib.hid (HB0.out.trans HA.out.1)
      have hb2 := HA.out.1.stays HBX.out
      have HBX1 := Lib.hid hb2
      have q2 := cell_of_heap hb2 2
      simp only [List.getElem?_toArray, List.getElem?_cons_zero, List.getElem?_cons_succ] at q2
      clear hb2 hlt hk HA
      go_wp2_with fail
      go_loopw [41] (fun i wr => ∃ k : Nat, k ≤ m.syms.length ∧ i = .int .i64 k ∧ Hid (Bel w wr ∧ wr.heap[bx]? = some (.cells #[.slice wp m.words.length wc, .int .i64 m.mem, .slice sp m.syms.length sc] 25 (0, 0)) ∧ ∀ j, j < k → symOk m j = true)) (fun i _ => m.syms.length - (intOf i).toNat)
      case atStart => exact ⟨0, Nat.zero_le _, rfl, HB1.out, HBX1.out, fun j hj => by omega⟩
      case round =>
        obtain ⟨wq, rfl⟩ : ∃ W, W = wr := ⟨_, rfl⟩
        obtain ⟨k, hk, rfl, HA⟩ := hrel
        by_cases hlt : k < m.syms.length
        · obtain ⟨⟨xs, xp⟩, hx⟩ : ∃ x, m.syms[k]? = some x := ⟨_, List.getElem?_eq_getElem hlt⟩
          obtain ⟨b, o, hspe, hbl, e1, e2⟩ := SymsQ.get (H.out.syms.bel HA.out.1) hx
          subst hspe
          simp only at e1 e2
          have hk' : (k : Int) < (m.syms.length : Int) := by omega
          have HX := Lib.hid hx
          have HLT := Lib.hid hlt
          have HNS := Lib.hid (H.out.wfs _ (List.mem_of_getElem? hx)).1
          obtain ⟨r1, hr1⟩ : ∃ r, isLab xs = r := ⟨_, rfl⟩
          obtain ⟨r2, hr2⟩ : ∃ r, isPl xp (m.words.length : Int) = r := ⟨_, rfl⟩
          have HR1 := Lib.hid hr1
          have HR2 := Lib.hid hr2
          have hsy : symOk m k = (r1 && r2 && prevOk m xs k) := by
            unfold symOk
            rw [hx]
            simp only [hr1, hr2]
          have HSY := Lib.hid hsy
          clear hx hlt hr1 hr2 hsy
          go_upto_region 12 with (fail)
          have hx6 := heap_alloc_new wq (.cells #[.string xs, .int .i64 xp] 42)
          have hb6 := (Bel.refl wq).alloc #[.string xs, .int .i64 xp] 42
          have hbx6 := hb6.stays HA.out.2.1
          generalize wq.alloc (.cells #[.string xs, .int .i64 xp] 42) = W6 at hx6 hb6 hbx6 ⊢
          obtain ⟨xB, hxB⟩ : ∃ q, q = wq.heap.size := ⟨_, rfl⟩
          rw [← hxB] at hx6 ⊢
          clear hxB
          have HB6 := Lib.hid (HA.out.1.trans hb6)
          have HBQ := Lib.hid hb6
          have HBX6 := Lib.hid hbx6
          have HX6 := Lib.hid hx6
          have HE1 := Lib.hid e1
          have HBL := Lib.hid hbl
          have HCE : Hid (∀ W, Bel W6 W → S12 bx xB wp (some ⟨b, o, none⟩) wc sc m xs xp W) := fun W h =>
            have g1 := h.stays HBX6.out
            have g2 := h.stays HX6.out
            ⟨cell_of_heap g1 0, cell_of_heap g1 2, cell_of_heap g2 0, cell_of_heap g2 1⟩
          have HXP := Lib.hid (H.out.wfs _ (List.mem_of_getElem? HX.out)).2
          have HLW : Hid (m.words.length ≤ 65536) := Lib.hid h1
          have HSTN : Hid (∀ W, Bel W6 W → W.heap[bx]? = some (.cells #[.slice wp m.words.length wc, .int .i64 m.mem, .slice (some ⟨b, o, none⟩) m.syms.length sc] 25 (0, 0))) := fun W h => h.stays HBX6.out
          clear hb6 hbx6 hx6 e1 e2 hbl
          cases r1 with
          | false =>
            have HF := Lib.hid (right_sym HLT.out (HSY.out.trans (by simp)))
            refine wp_region_held_drew (S := (S12 bx xB wp (some ⟨b, o, none⟩) wc sc m xs xp)) (by kernel_rfl) (HCE.out _ (Bel.refl _).drew) (fun hS => ?_)
            refine takeD 46 (i := 0) (v := ?v1) rfl rfl (by kernel_rfl) (by kernel_rfl) (by kernel_rfl) (fun _ _ _ h => h) (by kernel_rfl) ?hy1 hS ?rest1
            case hy1 => (intro w0 hSw; obtain ⟨s0, s1, s2, s3⟩ := hSw; first | (go_simp; done) | (go_simp; with_reducible rfl))
            simp only [List.setIfInBounds_toArray, List.set_cons_zero, List.set_cons_succ]
            refine takeD 47 (i := 1) (v := ?v2) rfl rfl (by kernel_rfl) (by kernel_rfl) (by kernel_rfl) (fun _ _ _ h => h) (by kernel_rfl) ?hy2 hS ?rest2
            case hy2 => (intro w0 hSw; obtain ⟨s0, s1, s2, s3⟩ := hSw; first | (go_simp; done) | (go_simp; with_reducible rfl))
            simp only [List.setIfInBounds_toArray, List.set_cons_zero, List.set_cons_succ]
            refine onlyD 48 (i := 2) rfl rfl (by kernel_rfl) (by kernel_rfl) (fun K hK => ?_)
            go_simp
            go_at_call 26
            refine (isName_lit HR1.out HNS.out _).mono ?_
            rintro e w7 ⟨rfl, hb7⟩
            have hS2 := HCE.out w7 (Bel.trans (Bel.drew (Bel.refl W6)) hb7.bel)
            refine hK.out _ _ hS2 (fun _ => ?_)
            clear hK K
            refine takeD 49 (i := 3) (v := ?v3) rfl rfl (by kernel_rfl) (by kernel_rfl) (by kernel_rfl) (fun _ _ _ h => h) (by kernel_rfl) ?hy3 hS2 ?rest3
            case hy3 => (intro w0 hSw; obtain ⟨s0, s1, s2, s3⟩ := hSw; first | (go_simp; done) | (go_simp; with_reducible rfl))
            simp only [List.setIfInBounds_toArray, List.set_cons_zero, List.set_cons_succ]
            refine takeD 50 (i := 4) (v := ?v4) rfl rfl (by kernel_rfl) (by kernel_rfl) (by kernel_rfl) (fun _ _ _ h => h) (by kernel_rfl) ?hy4 hS2 ?rest4
            case hy4 => (intro w0 hSw; obtain ⟨s0, s1, s2, s3⟩ := hSw; first | (go_simp; done) | (go_simp; with_reducible rfl))
            simp only [List.setIfInBounds_toArray, List.set_cons_zero, List.set_cons_succ]
            refine skipD 51 (i := 5) rfl rfl (by kernel_rfl) (by kernel_rfl) (by kernel_rfl) (fun _ _ _ h => h) (by kernel_rfl) hS2 ?_
            simp only [List.setIfInBounds_toArray, List.set_cons_zero, List.set_cons_succ]
            refine skipD 52 (i := 6) rfl rfl (by kernel_rfl) (by kernel_rfl) (by kernel_rfl) (fun _ _ _ h => h) (by kernel_rfl) hS2 ?_
            simp only [List.setIfInBounds_toArray, List.set_cons_zero, List.set_cons_succ]
            refine skipD 53 (i := 7) rfl rfl (by kernel_rfl) (by kernel_rfl) (by kernel_rfl) (fun _ _ _ h => h) (by kernel_rfl) hS2 ?_
            simp only [List.setIfInBounds_toArray, List.set_cons_zero, List.set_cons_succ]
            refine skipD 54 (i := 8) rfl rfl (by kernel_rfl) (by kernel_rfl) (by kernel_rfl) (fun _ _ _ h => h) (by kernel_rfl) hS2 ?_
            simp only [List.setIfInBounds_toArray, List.set_cons_zero, List.set_cons_succ]
            refine skipD 55 (i := 9) rfl rfl (by kernel_rfl) (by kernel_rfl) (by kernel_rfl) (fun _ _ _ h => h) (by kernel_rfl) hS2 ?_
            simp only [List.setIfInBounds_toArray, List.set_cons_zero, List.set_cons_succ]
            refine skipD 56 (i := 10) rfl rfl (by kernel_rfl) (by kernel_rfl) (by kernel_rfl) (fun _ _ _ h => h) (by kernel_rfl) hS2 ?_
            simp only [List.setIfInBounds_toArray, List.set_cons_zero, List.set_cons_succ]
            refine skipD 57 (i := 11) rfl rfl (by kernel_rfl) (by kernel_rfl) (by kernel_rfl) (fun _ _ _ h => h) (by kernel_rfl) hS2 ?_
            simp only [List.setIfInBounds_toArray, List.set_cons_zero, List.set_cons_succ]
            refine takeD 58 (i := 12) (v := ?v5) rfl rfl (by kernel_rfl) (by kernel_rfl) (by kernel_rfl) (fun _ _ _ h => h) (by kernel_rfl) ?hy5 hS2 ?rest5
            case hy5 => (intro w0 hSw; obtain ⟨s0, s1, s2, s3⟩ := hSw; first | (go_simp; done) | (go_simp; with_reducible rfl))
            simp only [List.setIfInBounds_toArray, List.set_cons_zero, List.set_cons_succ]
            refine takeD 59 (i := 13) (v := ?v6) rfl rfl (by kernel_rfl) (by kernel_rfl) (by kernel_rfl) (fun _ _ _ h => h) (by kernel_rfl) ?hy6 hS2 ?rest6
            case hy6 => (intro w0 hSw; obtain ⟨s0, s1, s2, s3⟩ := hSw; first | (go_simp; done) | (go_simp; with_reducible rfl))
            simp only [List.setIfInBounds_toArray, List.set_cons_zero, List.set_cons_succ]
            refine skipD 60 (i := 14) rfl rfl (by kernel_rfl) (by kernel_rfl) (by kernel_rfl) (fun _ _ _ h => h) (by kernel_rfl) hS2 ?_
            simp only [List.setIfInBounds_toArray, List.set_cons_zero, List.set_cons_succ]
            refine skipD 61 (i := 15) rfl rfl (by kernel_rfl) (by kernel_rfl) (by kernel_rfl) (fun _ _ _ h => h) (by kernel_rfl) hS2 ?_
            simp only [List.setIfInBounds_toArray, List.set_cons_zero, List.set_cons_succ]
            refine skipD 62 (i := 16) rfl rfl (by kernel_rfl) (by kernel_rfl) (by kernel_rfl) (fun _ _ _ h => h) (by kernel_rfl) hS2 ?_
            simp only [List.setIfInBounds_toArray, List.set_cons_zero, List.set_cons_succ]
            refine skipD 63 (i := 17) rfl rfl (by kernel_rfl) (by kernel_rfl) (by kernel_rfl) (fun _ _ _ h => h) (by kernel_rfl) hS2 ?_
            simp only [List.setIfInBounds_toArray, List.set_cons_zero, List.set_cons_succ]
            refine skipD 64 (i := 18) rfl rfl (by kernel_rfl) (by kernel_rfl) (by kernel_rfl) (fun _ _ _ h => h) (by kernel_rfl) hS2 ?_
            simp only [List.setIfInBounds_toArray, List.set_cons_zero, List.set_cons_succ]
            refine skipD 65 (i := 19) rfl rfl (by kernel_rfl) (by kernel_rfl) (by kernel_rfl) (fun _ _ _ h => h) (by kernel_rfl) hS2 ?_
            simp only [List.setIfInBounds_toArray, List.set_cons_zero, List.set_cons_succ]
            refine skipD 66 (i := 20) rfl rfl (by kernel_rfl) (by kernel_rfl) (by kernel_rfl) (fun _ _ _ h => h) (by kernel_rfl) hS2 ?_
            simp only [List.setIfInBounds_toArray, List.set_cons_zero, List.set_cons_succ]
            refine skipD 67 (i := 21) rfl rfl (by kernel_rfl) (by kernel_rfl) (by kernel_rfl) (fun _ _ _ h => h) (by kernel_rfl) hS2 ?_
            simp only [List.setIfInBounds_toArray, List.set_cons_zero, List.set_cons_succ]
            refine skipD 68 (i := 22) rfl rfl (by kernel_rfl) (by kernel_rfl) (by kernel_rfl) (fun _ _ _ h => h) (by kernel_rfl) hS2 ?_
            simp only [List.setIfInBounds_toArray, List.set_cons_zero, List.set_cons_succ]
            refine skipD 69 (i := 23) rfl rfl (by kernel_rfl) (by kernel_rfl) (by kernel_rfl) (fun _ _ _ h => h) (by kernel_rfl) hS2 ?_
            simp only [List.setIfInBounds_toArray, List.set_cons_zero, List.set_cons_succ]
            refine skipD 70 (i := 24) rfl rfl (by kernel_rfl) (by kernel_rfl) (by kernel_rfl) (fun _ _ _ h => h) (by kernel_rfl) hS2 ?_
            simp only [List.setIfInBounds_toArray, List.set_cons_zero, List.set_cons_succ]
            refine skipD 71 (i := 25) rfl rfl (by kernel_rfl) (by kernel_rfl) (by kernel_rfl) (fun _ _ _ h => h) (by kernel_rfl) hS2 ?_
            simp only [List.setIfInBounds_toArray, List.set_cons_zero, List.set_cons_succ]
            refine skipD 72 (i := 26) rfl rfl (by kernel_rfl) (by kernel_rfl) (by kernel_rfl) (fun _ _ _ h => h) (by kernel_rfl) hS2 ?_
            simp only [List.setIfInBounds_toArray, List.set_cons_zero, List.set_cons_succ]
            refine skipD 73 (i := 27) rfl rfl (by kernel_rfl) (by kernel_rfl) (by kernel_rfl) (fun _ _ _ h => h) (by kernel_rfl) hS2 ?_
            simp only [List.setIfInBounds_toArray, List.set_cons_zero, List.set_cons_succ]
            refine takeD 74 (i := 28) (v := ?v7) rfl rfl (by kernel_rfl) (by kernel_rfl) (by kernel_rfl) (fun _ _ _ h => h) (by kernel_rfl) ?hy7 hS2 ?rest7
            case hy7 => (intro w0 hSw; obtain ⟨s0, s1, s2, s3⟩ := hSw; first | (go_simp; done) | (go_simp; with_reducible rfl))
            simp only [List.setIfInBounds_toArray, List.set_cons_zero, List.set_cons_succ]
            refine wpAnyH_done (by kernel_rfl) ?_ _
            have HB7 : Hid (Bel w w7) := Bel.trans HB6.out (Bel.trans (Bel.drew (Bel.refl W6)) hb7.bel)
            clear hb7 hS hS2
            go_wp2_with fail
            go_ret
            exact ⟨rb (by first | exact HF.out.symm | exact HF.out.symm.trans HRR.out), HB7.out⟩
          | true =>
            cases r2 with
            | false =>
              have HF := Lib.hid (right_sym HLT.out (HSY.out.trans (by simp)))
              refine wp_region_held_drew (S := (S12 bx xB wp (some ⟨b, o, none⟩) wc sc m xs xp)) (by kernel_rfl) (HCE.out _ (Bel.refl _).drew) (fun hS => ?_)
              refine takeD 46 (i := 0) (v := ?v8) rfl rfl (by kernel_rfl) (by kernel_rfl) (by kernel_rfl) (fun _ _ _ h => h) (by kernel_rfl) ?hy8 hS ?rest8
              case hy8 => (intro w0 hSw; obtain ⟨s0, s1, s2, s3⟩ := hSw; first | (go_simp; done) | (go_simp; with_reducible rfl))
              simp only [List.setIfInBounds_toArray, List.set_cons_zero, List.set_cons_succ]
              refine takeD 47 (i := 1) (v := ?v9) rfl rfl (by kernel_rfl) (by kernel_rfl) (by kernel_rfl) (fun _ _ _ h => h) (by kernel_rfl) ?hy9 hS ?rest9
              case hy9 => (intro w0 hSw; obtain ⟨s0, s1, s2, s3⟩ := hSw; first | (go_simp; done) | (go_simp; with_reducible rfl))
              simp only [List.setIfInBounds_toArray, List.set_cons_zero, List.set_cons_succ]
              refine onlyD 48 (i := 2) rfl rfl (by kernel_rfl) (by kernel_rfl) (fun K hK => ?_)
              go_simp
              go_at_call 26
              refine (isName_lit HR1.out HNS.out _).mono ?_
              rintro e w7 ⟨rfl, hb7⟩
              have hS2 := HCE.out w7 (Bel.trans (Bel.drew (Bel.refl W6)) hb7.bel)
              refine hK.out _ _ hS2 (fun _ => ?_)
              clear hK K
              refine takeD 49 (i := 3) (v := ?v10) rfl rfl (by kernel_rfl) (by kernel_rfl) (by kernel_rfl) (fun _ _ _ h => h) (by kernel_rfl) ?hy10 hS2 ?rest10
              case hy10 => (intro w0 hSw; obtain ⟨s0, s1, s2, s3⟩ := hSw; first | (go_simp; done) | (go_simp; with_reducible rfl))
              simp only [List.setIfInBounds_toArray, List.set_cons_zero, List.set_cons_succ]
              refine takeD 50 (i := 4) (v := ?v11) rfl rfl (by kernel_rfl) (by kernel_rfl) (by kernel_rfl) (fun _ _ _ h => h) (by kernel_rfl) ?hy11 hS2 ?rest11
              case hy11 => (intro w0 hSw; obtain ⟨s0, s1, s2, s3⟩ := hSw; first | (go_simp; done) | (go_simp; with_reducible rfl))
              simp only [List.setIfInBounds_toArray, List.set_cons_zero, List.set_cons_succ]
              refine takeD 51 (i := 5) (v := ?v12) rfl rfl (by kernel_rfl) (by kernel_rfl) (by kernel_rfl) (fun _ _ _ h => h) (by kernel_rfl) ?hy12 hS2 ?rest12
              case hy12 => (intro w0 hSw; obtain ⟨s0, s1, s2, s3⟩ := hSw; first | (go_simp; done) | (go_simp; with_reducible rfl))
              simp only [List.setIfInBounds_toArray, List.set_cons_zero, List.set_cons_succ]
              refine takeD 52 (i := 6) (v := ?v13) rfl rfl (by kernel_rfl) (by kernel_rfl) (by kernel_rfl) (fun _ _ _ h => h) (by kernel_rfl) ?hy13 hS2 ?rest13
              case hy13 => (intro w0 hSw; obtain ⟨s0, s1, s2, s3⟩ := hSw; first | (go_simp; done) | (go_simp; with_reducible rfl))
              simp only [List.setIfInBounds_toArray, List.set_cons_zero, List.set_cons_succ]
              refine takeD 53 (i := 7) (v := ?v14) rfl rfl (by kernel_rfl) (by kernel_rfl) (by kernel_rfl) (fun _ _ _ h => h) (by kernel_rfl) ?hy14 hS2 ?rest14
              case hy14 => (intro w0 hSw; obtain ⟨s0, s1, s2, s3⟩ := hSw; first | (go_simp; done) | (go_simp; with_reducible rfl))
              simp only [List.setIfInBounds_toArray, List.set_cons_zero, List.set_cons_succ]
              refine takeD 54 (i := 8) (v := ?v15) rfl rfl (by kernel_rfl) (by kernel_rfl) (by kernel_rfl) (fun _ _ _ h => h) (by kernel_rfl) ?hy15 hS2 ?rest15
              case hy15 => (intro w0 hSw; obtain ⟨s0, s1, s2, s3⟩ := hSw; first | (go_simp; done) | (go_simp; with_reducible rfl))
              simp only [List.setIfInBounds_toArray, List.set_cons_zero, List.set_cons_succ]
              refine takeD 55 (i := 9) (v := ?v16) rfl rfl (by kernel_rfl) (by kernel_rfl) (by kernel_rfl) (fun _ _ _ h => h) (by kernel_rfl) ?hy16 hS2 ?rest16
              case hy16 => (intro w0 hSw; obtain ⟨s0, s1, s2, s3⟩ := hSw; first | (go_simp; done) | (go_simp; with_reducible rfl))
              simp only [List.setIfInBounds_toArray, List.set_cons_zero, List.set_cons_succ]
              refine onlyD 56 (i := 10) rfl rfl (by kernel_rfl) (by kernel_rfl) (fun K hK => ?_)
              go_simp
              go_at_call 27
              refine (isPlace_lit (by omega) (by have := HLW.out; omega) HR2.out _).mono ?_
              rintro e w8 ⟨rfl, rfl⟩
              have hS3 := HCE.out w7 (Bel.trans (Bel.drew (Bel.refl W6)) hb7.bel)
              refine hK.out _ _ hS3 (fun _ => ?_)
              clear hK K
              refine takeD 57 (i := 11) (v := ?v17) rfl rfl (by kernel_rfl) (by kernel_rfl) (by kernel_rfl) (fun _ _ _ h => h) (by kernel_rfl) ?hy17 hS3 ?rest17
              case hy17 => (intro w0 hSw; obtain ⟨s0, s1, s2, s3⟩ := hSw; first | (go_simp; done) | (go_simp; with_reducible rfl))
              simp only [List.setIfInBounds_toArray, List.set_cons_zero, List.set_cons_succ]
              refine takeD 58 (i := 12) (v := ?v18) rfl rfl (by kernel_rfl) (by kernel_rfl) (by kernel_rfl) (fun _ _ _ h => h) (by kernel_rfl) ?hy18 hS3 ?rest18
              case hy18 => (intro w0 hSw; obtain ⟨s0, s1, s2, s3⟩ := hSw; first | (go_simp; done) | (go_simp; with_reducible rfl))
              simp only [List.setIfInBounds_toArray, List.set_cons_zero, List.set_cons_succ]
              refine takeD 59 (i := 13) (v := ?v19) rfl rfl (by kernel_rfl) (by kernel_rfl) (by kernel_rfl) (fun _ _ _ h => h) (by kernel_rfl) ?hy19 hS3 ?rest19
              case hy19 => (intro w0 hSw; obtain ⟨s0, s1, s2, s3⟩ := hSw; first | (go_simp; done) | (go_simp; with_reducible rfl))
              simp only [List.setIfInBounds_toArray, List.set_cons_zero, List.set_cons_succ]
              refine skipD 60 (i := 14) rfl rfl (by kernel_rfl) (by kernel_rfl) (by kernel_rfl) (fun _ _ _ h => h) (by kernel_rfl) hS3 ?_
              simp only [List.setIfInBounds_toArray, List.set_cons_zero, List.set_cons_succ]
              refine skipD 61 (i := 15) rfl rfl (by kernel_rfl) (by kernel_rfl) (by kernel_rfl) (fun _ _ _ h => h) (by kernel_rfl) hS3 ?_
              simp only [List.setIfInBounds_toArray, List.set_cons_zero, List.set_cons_succ]
              refine skipD 62 (i := 16) rfl rfl (by kernel_rfl) (by kernel_rfl) (by kernel_rfl) (fun _ _ _ h => h) (by kernel_rfl) hS3 ?_
              simp only [List.setIfInBounds_toArray, List.set_cons_zero, List.set_cons_succ]
              refine skipD 63 (i := 17) rfl rfl (by kernel_rfl) (by kernel_rfl) (by kernel_rfl) (fun _ _ _ h => h) (by kernel_rfl) hS3 ?_
              simp only [List.setIfInBounds_toArray, List.set_cons_zero, List.set_cons_succ]
              refine skipD 64 (i := 18) rfl rfl (by kernel_rfl) (by kernel_rfl) (by kernel_rfl) (fun _ _ _ h => h) (by kernel_rfl) hS3 ?_
              simp only [List.setIfInBounds_toArray, List.set_cons_zero, List.set_cons_succ]
              refine skipD 65 (i := 19) rfl rfl (by kernel_rfl) (by kernel_rfl) (by kernel_rfl) (fun _ _ _ h => h) (by kernel_rfl) hS3 ?_
              simp only [List.setIfInBounds_toArray, List.set_cons_zero, List.set_cons_succ]
              refine skipD 66 (i := 20) rfl rfl (by kernel_rfl) (by kernel_rfl) (by kernel_rfl) (fun _ _ _ h => h) (by kernel_rfl) hS3 ?_
              simp only [List.setIfInBounds_toArray, List.set_cons_zero, List.set_cons_succ]
              refine skipD 67 (i := 21) rfl rfl (by kernel_rfl) (by kernel_rfl) (by kernel_rfl) (fun _ _ _ h => h) (by kernel_rfl) hS3 ?_
              simp only [List.setIfInBounds_toArray, List.set_cons_zero, List.set_cons_succ]
              refine skipD 68 (i := 22) rfl rfl (by kernel_rfl) (by kernel_rfl) (by kernel_rfl) (fun _ _ _ h => h) (by kernel_rfl) hS3 ?_
              simp only [List.setIfInBounds_toArray, List.set_cons_zero, List.set_cons_succ]
              refine skipD 69 (i := 23) rfl rfl (by kernel_rfl) (by kernel_rfl) (by kernel_rfl) (fun _ _ _ h => h) (by kernel_rfl) hS3 ?_
              simp only [List.setIfInBounds_toArray, List.set_cons_zero, List.set_cons_succ]
              refine skipD 70 (i := 24) rfl rfl (by kernel_rfl) (by kernel_rfl) (by kernel_rfl) (fun _ _ _ h => h) (by kernel_rfl) hS3 ?_
              simp only [List.setIfInBounds_toArray, List.set_cons_zero, List.set_cons_succ]
              refine skipD 71 (i := 25) rfl rfl (by kernel_rfl) (by kernel_rfl) (by kernel_rfl) (fun _ _ _ h => h) (by kernel_rfl) hS3 ?_
              simp only [List.setIfInBounds_toArray, List.set_cons_zero, List.set_cons_succ]
              refine skipD 72 (i := 26) rfl rfl (by kernel_rfl) (by kernel_rfl) (by kernel_rfl) (fun _ _ _ h => h) (by kernel_rfl) hS3 ?_
              simp only [List.setIfInBounds_toArray, List.set_cons_zero, List.set_cons_succ]
              refine skipD 73 (i := 27) rfl rfl (by kernel_rfl) (by kernel_rfl) (by kernel_rfl) (fun _ _ _ h => h) (by kernel_rfl) hS3 ?_
              simp only [List.setIfInBounds_toArray, List.set_cons_zero, List.set_cons_succ]
              refine takeD 74 (i := 28) (v := ?v20) rfl rfl (by kernel_rfl) (by kernel_rfl) (by kernel_rfl) (fun _ _ _ h => h) (by kernel_rfl) ?hy20 hS3 ?rest20
              case hy20 => (intro w0 hSw; obtain ⟨s0, s1, s2, s3⟩ := hSw; first | (go_simp; done) | (go_simp; with_reducible rfl))
              simp only [List.setIfInBounds_toArray, List.set_cons_zero, List.set_cons_succ]
              refine wpAnyH_done (by kernel_rfl) ?_ _
              have HB7 : Hid (Bel w w7) := Bel.trans HB6.out (Bel.trans (Bel.drew (Bel.refl W6)) hb7.bel)
              clear hb7 hS hS2 hS3
              go_wp2_with fail
              go_ret
              exact ⟨rb (by first | exact HF.out.symm | exact HF.out.symm.trans HRR.out), HB7.out⟩
            | true =>
              cases k with
              | zero =>
                have HOK : Hid (symOk m 0 = true) := Lib.hid (HSY.out.trans rfl)
                refine wp_region_held_drew (S := (S12 bx xB wp (some ⟨b, o, none⟩) wc sc m xs xp)) (by kernel_rfl) (HCE.out _ (Bel.refl _).drew) (fun hS => ?_)
                refine takeD 46 (i := 0) (v := ?v21) rfl rfl (by kernel_rfl) (by kernel_rfl) (by kernel_rfl) (fun _ _ _ h => h) (by kernel_rfl) ?hy21 hS ?rest21
                case hy21 => (intro w0 hSw; obtain ⟨s0, s1, s2, s3⟩ := hSw; first | (go_simp; done) | (go_simp; with_reducible rfl))
                simp only [List.setIfInBounds_toArray, List.set_cons_zero, List.set_cons_succ]
                refine takeD 47 (i := 1) (v := ?v22) rfl rfl (by kernel_rfl) (by kernel_rfl) (by kernel_rfl) (fun _ _ _ h => h) (by kernel_rfl) ?hy22 hS ?rest22
                case hy22 => (intro w0 hSw; obtain ⟨s0, s1, s2, s3⟩ := hSw; first | (go_simp; done) | (go_simp; with_reducible rfl))
                simp only [List.setIfInBounds_toArray, List.set_cons_zero, List.set_cons_succ]
                refine onlyD 48 (i := 2) rfl rfl (by kernel_rfl) (by kernel_rfl) (fun K hK => ?_)
                go_simp
                go_at_call 26
                refine (isName_lit HR1.out HNS.out _).mono ?_
                rintro e w7 ⟨rfl, hb7⟩
                have hS2 := HCE.out w7 (Bel.trans (Bel.drew (Bel.refl W6)) hb7.bel)
                refine hK.out _ _ hS2 (fun _ => ?_)
                clear hK K
                refine takeD 49 (i := 3) (v := ?v23) rfl rfl (by kernel_rfl) (by kernel_rfl) (by kernel_rfl) (fun _ _ _ h => h) (by kernel_rfl) ?hy23 hS2 ?rest23
                case hy23 => (intro w0 hSw; obtain ⟨s0, s1, s2, s3⟩ := hSw; first | (go_simp; done) | (go_simp; with_reducible rfl))
                simp only [List.setIfInBounds_toArray, List.set_cons_zero, List.set_cons_succ]
                refine takeD 50 (i := 4) (v := ?v24) rfl rfl (by kernel_rfl) (by kernel_rfl) (by kernel_rfl) (fun _ _ _ h => h) (by kernel_rfl) ?hy24 hS2 ?rest24
                case hy24 => (intro w0 hSw; obtain ⟨s0, s1, s2, s3⟩ := hSw; first | (go_simp; done) | (go_simp; with_reducible rfl))
                simp only [List.setIfInBounds_toArray, List.set_cons_zero, List.set_cons_succ]
                refine takeD 51 (i := 5) (v := ?v25) rfl rfl (by kernel_rfl) (by kernel_rfl) (by kernel_rfl) (fun _ _ _ h => h) (by kernel_rfl) ?hy25 hS2 ?rest25
                case hy25 => (intro w0 hSw; obtain ⟨s0, s1, s2, s3⟩ := hSw; first | (go_simp; done) | (go_simp; with_reducible rfl))
                simp only [List.setIfInBounds_toArray, List.set_cons_zero, List.set_cons_succ]
                refine takeD 52 (i := 6) (v := ?v26) rfl rfl (by kernel_rfl) (by kernel_rfl) (by kernel_rfl) (fun _ _ _ h => h) (by kernel_rfl) ?hy26 hS2 ?rest26
                case hy26 => (intro w0 hSw; obtain ⟨s0, s1, s2, s3⟩ := hSw; first | (go_simp; done) | (go_simp; with_reducible rfl))
                simp only [List.setIfInBounds_toArray, List.set_cons_zero, List.set_cons_succ]
                refine takeD 53 (i := 7) (v := ?v27) rfl rfl (by kernel_rfl) (by kernel_rfl) (by kernel_rfl) (fun _ _ _ h => h) (by kernel_rfl) ?hy27 hS2 ?rest27
                case hy27 => (intro w0 hSw; obtain ⟨s0, s1, s2, s3⟩ := hSw; first | (go_simp; done) | (go_simp; with_reducible rfl))
                simp only [List.setIfInBounds_toArray, List.set_cons_zero, List.set_cons_succ]
                refine takeD 54 (i := 8) (v := ?v28) rfl rfl (by kernel_rfl) (by kernel_rfl) (by kernel_rfl) (fun _ _ _ h => h) (by kernel_rfl) ?hy28 hS2 ?rest28
                case hy28 => (intro w0 hSw; obtain ⟨s0, s1, s2, s3⟩ := hSw; first | (go_simp; done) | (go_simp; with_reducible rfl))
                simp only [List.setIfInBounds_toArray, List.set_cons_zero, List.set_cons_succ]
                refine takeD 55 (i := 9) (v := ?v29) rfl rfl (by kernel_rfl) (by kernel_rfl) (by kernel_rfl) (fun _ _ _ h => h) (by kernel_rfl) ?hy29 hS2 ?rest29
                case hy29 => (intro w0 hSw; obtain ⟨s0, s1, s2, s3⟩ := hSw; first | (go_simp; done) | (go_simp; with_reducible rfl))
                simp only [List.setIfInBounds_toArray, List.set_cons_zero, List.set_cons_succ]
                refine onlyD 56 (i := 10) rfl rfl (by kernel_rfl) (by kernel_rfl) (fun K hK => ?_)
                go_simp
                go_at_call 27
                refine (isPlace_lit (by omega) (by have := HLW.out; omega) HR2.out _).mono ?_
                rintro e w8 ⟨rfl, rfl⟩
                have hS3 := HCE.out w7 (Bel.trans (Bel.drew (Bel.refl W6)) hb7.bel)
                refine hK.out _ _ hS3 (fun _ => ?_)
                clear hK K
                refine takeD 57 (i := 11) (v := ?v30) rfl rfl (by kernel_rfl) (by kernel_rfl) (by kernel_rfl) (fun _ _ _ h => h) (by kernel_rfl) ?hy30 hS3 ?rest30
                case hy30 => (intro w0 hSw; obtain ⟨s0, s1, s2, s3⟩ := hSw; first | (go_simp; done) | (go_simp; with_reducible rfl))
                simp only [List.setIfInBounds_toArray, List.set_cons_zero, List.set_cons_succ]
                refine takeD 58 (i := 12) (v := ?v31) rfl rfl (by kernel_rfl) (by kernel_rfl) (by kernel_rfl) (fun _ _ _ h => h) (by kernel_rfl) ?hy31 hS3 ?rest31
                case hy31 => (intro w0 hSw; obtain ⟨s0, s1, s2, s3⟩ := hSw; first | (go_simp; done) | (go_simp; with_reducible rfl))
                simp only [List.setIfInBounds_toArray, List.set_cons_zero, List.set_cons_succ]
                refine takeD 59 (i := 13) (v := ?v32) rfl rfl (by kernel_rfl) (by kernel_rfl) (by kernel_rfl) (fun _ _ _ h => h) (by kernel_rfl) ?hy32 hS3 ?rest32
                case hy32 => (intro w0 hSw; obtain ⟨s0, s1, s2, s3⟩ := hSw; first | (go_simp; done) | (go_simp; with_reducible rfl))
                simp only [List.setIfInBounds_toArray, List.set_cons_zero, List.set_cons_succ]
                refine takeD 60 (i := 14) (v := ?v33) rfl rfl (by kernel_rfl) (by kernel_rfl) (by kernel_rfl) (fun _ _ _ h => h) (by kernel_rfl) ?hy33 hS3 ?rest33
                case hy33 => (intro w0 hSw; obtain ⟨s0, s1, s2, s3⟩ := hSw; first | (go_simp; done) | (go_simp; with_reducible rfl))
                simp only [List.setIfInBounds_toArray, List.set_cons_zero, List.set_cons_succ]
                refine takeD 61 (i := 15) (v := ?v34) rfl rfl (by kernel_rfl) (by kernel_rfl) (by kernel_rfl) (fun _ _ _ h => h) (by kernel_rfl) ?hy34 hS3 ?rest34
                case hy34 => (intro w0 hSw; obtain ⟨s0, s1, s2, s3⟩ := hSw; first | (go_simp; done) | (go_simp; with_reducible rfl))
                simp only [List.setIfInBounds_toArray, List.set_cons_zero, List.set_cons_succ]
                refine takeD 62 (i := 16) (v := ?v35) rfl rfl (by kernel_rfl) (by kernel_rfl) (by kernel_rfl) (fun _ _ _ h => h) (by kernel_rfl) ?hy35 hS3 ?rest35
                case hy35 => (intro w0 hSw; obtain ⟨s0, s1, s2, s3⟩ := hSw; first | (go_simp; done) | (go_simp; with_reducible rfl))
                simp only [List.setIfInBounds_toArray, List.set_cons_zero, List.set_cons_succ]
                refine skipD 63 (i := 17) rfl rfl (by kernel_rfl) (by kernel_rfl) (by kernel_rfl) (fun _ _ _ h => h) (by kernel_rfl) hS3 ?_
                simp only [List.setIfInBounds_toArray, List.set_cons_zero, List.set_cons_succ]
                refine skipD 64 (i := 18) rfl rfl (by kernel_rfl) (by kernel_rfl) (by kernel_rfl) (fun _ _ _ h => h) (by kernel_rfl) hS3 ?_
                simp only [List.setIfInBounds_toArray, List.set_cons_zero, List.set_cons_succ]
                refine skipD 65 (i := 19) rfl rfl (by kernel_rfl) (by kernel_rfl) (by kernel_rfl) (fun _ _ _ h => h) (by kernel_rfl) hS3 ?_
                simp only [List.setIfInBounds_toArray, List.set_cons_zero, List.set_cons_succ]
                refine skipD 66 (i := 20) rfl rfl (by kernel_rfl) (by kernel_rfl) (by kernel_rfl) (fun _ _ _ h => h) (by kernel_rfl) hS3 ?_
                simp only [List.setIfInBounds_toArray, List.set_cons_zero, List.set_cons_succ]
                refine skipD 67 (i := 21) rfl rfl (by kernel_rfl) (by kernel_rfl) (by kernel_rfl) (fun _ _ _ h => h) (by kernel_rfl) hS3 ?_
                simp only [List.setIfInBounds_toArray, List.set_cons_zero, List.set_cons_succ]
                refine skipD 68 (i := 22) rfl rfl (by kernel_rfl) (by kernel_rfl) (by kernel_rfl) (fun _ _ _ h => h) (by kernel_rfl) hS3 ?_
                simp only [List.setIfInBounds_toArray, List.set_cons_zero, List.set_cons_succ]
                refine skipD 69 (i := 23) rfl rfl (by kernel_rfl) (by kernel_rfl) (by kernel_rfl) (fun _ _ _ h => h) (by kernel_rfl) hS3 ?_
                simp only [List.setIfInBounds_toArray, List.set_cons_zero, List.set_cons_succ]
                refine skipD 70 (i := 24) rfl rfl (by kernel_rfl) (by kernel_rfl) (by kernel_rfl) (fun _ _ _ h => h) (by kernel_rfl) hS3 ?_
                simp only [List.setIfInBounds_toArray, List.set_cons_zero, List.set_cons_succ]
                refine skipD 71 (i := 25) rfl rfl (by kernel_rfl) (by kernel_rfl) (by kernel_rfl) (fun _ _ _ h => h) (by kernel_rfl) hS3 ?_
                simp only [List.setIfInBounds_toArray, List.set_cons_zero, List.set_cons_succ]
                refine skipD 72 (i := 26) rfl rfl (by kernel_rfl) (by kernel_rfl) (by kernel_rfl) (fun _ _ _ h => h) (by kernel_rfl) hS3 ?_
                simp only [List.setIfInBounds_toArray, List.set_cons_zero, List.set_cons_succ]
                refine takeD 73 (i := 27) (v := ?v36) rfl rfl (by kernel_rfl) (by kernel_rfl) (by kernel_rfl) (fun _ _ _ h => h) (by kernel_rfl) ?hy36 hS3 ?rest36
                case hy36 => (intro w0 hSw; obtain ⟨s0, s1, s2, s3⟩ := hSw; first | (go_simp; done) | (go_simp; with_reducible rfl))
                simp only [List.setIfInBounds_toArray, List.set_cons_zero, List.set_cons_succ]
                refine takeD 74 (i := 28) (v := ?v37) rfl rfl (by kernel_rfl) (by kernel_rfl) (by kernel_rfl) (fun _ _ _ h => h) (by kernel_rfl) ?hy37 hS3 ?rest37
                case hy37 => (intro w0 hSw; obtain ⟨s0, s1, s2, s3⟩ := hSw; first | (go_simp; done) | (go_simp; with_reducible rfl))
                simp only [List.setIfInBounds_toArray, List.set_cons_zero, List.set_cons_succ]
                refine wpAnyH_done (by kernel_rfl) ?_ _
                have HST7 := Lib.hid (HSTN.out w7 (Bel.trans (Bel.drew (Bel.refl W6)) hb7.bel))
                have HB7 : Hid (Bel w w7) := Bel.trans HB6.out (Bel.trans (Bel.drew (Bel.refl W6)) hb7.bel)
                clear hb7 hS hS2 hS3
                have HN9 : Hid (Bel w w7 ∧ w7.heap[bx]? = some (.cells #[.slice wp m.words.length wc, .int .i64 m.mem, .slice (some ⟨b, o, none⟩) m.syms.length sc] 25 (0, 0)) ∧ ∀ i, i < 0 + 1 → symOk m i = true) := ⟨HB7.out, HST7.out, fun i hi => by
                  by_cases e : i = 0
                  · rw [e]; exact HOK.out
                  · exact HA.out.2.2 i (by omega)⟩
                go_wp2_with fail
                go_roundw
                case rel => exact ⟨0 + 1, HLT.out, by go_num, HN9.out⟩
                case measure => simp [intOf]; have := HLT.out; omega
              | succ j =>
                obtain ⟨⟨ys, yp⟩, hy⟩ : ∃ y, m.syms[j]? = some y := ⟨_, List.getElem?_eq_getElem (by have := HLT.out; omega)⟩
                obtain ⟨b2, o2, hbo, hbl2, e3, _⟩ := SymsQ.get (H.out.syms.bel HB6.out) hy
                obtain ⟨rfl, rfl⟩ : b = b2 ∧ o = o2 := by simpa using hbo
                have HCEp : Hid (∀ W, Bel W6 W → S12p bx xB wp (some ⟨b, o, none⟩) wc sc m xs xp b (o + j * 2) ys W) := fun W h => ⟨(HCE.out W h).1, (HCE.out W h).2.1, (HCE.out W h).2.2.1, (HCE.out W h).2.2.2, (h.cell (p := ⟨b, o + j * 2, none⟩) hbl2).trans e3⟩
                have hpv : prevOk m xs (j + 1) = less ys xs := by
                  show (match m.syms[j]? with | none => true | some y => less y.name xs) = _
                  rw [hy]
                clear e3 hbl2 hbo hy
                cases hl : less ys xs with
                | true =>
                  have HOK : Hid (symOk m (j + 1) = true) := Lib.hid (HSY.out.trans (by rw [hpv, hl]; rfl))
                  have hl2 : Op.bytesLess ys.toList xs.toList = true := hl
                  clear hl hpv
                  have vj : IntKind.i64.wrap (j : Int) = j := IntWalk.i64_in _ (by constructor <;> (have := HLT.out; omega))
                  have vj1 : (0 : Int) ≤ (j : Int) := by omega
                  have vj2 : (j : Int) < (m.syms.length : Int) := by have := HLT.out; omega
                  refine wp_region_held_drew (S := (S12p bx xB wp (some ⟨b, o, none⟩) wc sc m xs xp b (o + j * 2) ys)) (by kernel_rfl) (HCEp.out _ (Bel.refl _).drew) (fun hS => ?_)
                  refine takeD 46 (i := 0) (v := ?v38) rfl rfl (by kernel_rfl) (by kernel_rfl) (by kernel_rfl) (fun _ _ _ h => h) (by kernel_rfl) ?hy38 hS ?rest38
                  case hy38 => (intro w0 hSw; obtain ⟨s0, s1, s2, s3, s4⟩ := hSw; first | (go_simp; done) | (go_simp; with_reducible rfl))
                  simp only [List.setIfInBounds_toArray, List.set_cons_zero, List.set_cons_succ]
                  refine takeD 47 (i := 1) (v := ?v39) rfl rfl (by kernel_rfl) (by kernel_rfl) (by kernel_rfl) (fun _ _ _ h => h) (by kernel_rfl) ?hy39 hS ?rest39
                  case hy39 => (intro w0 hSw; obtain ⟨s0, s1, s2, s3, s4⟩ := hSw; first | (go_simp; done) | (go_simp; with_reducible rfl))
                  simp only [List.setIfInBounds_toArray, List.set_cons_zero, List.set_cons_succ]
                  refine onlyD 48 (i := 2) rfl rfl (by kernel_rfl) (by kernel_rfl) (fun K hK => ?_)
                  go_simp
                  go_at_call 26
                  refine (isName_lit HR1.out HNS.out _).mono ?_
                  rintro e w7 ⟨rfl, hb7⟩
                  have hS2 := HCEp.out w7 (Bel.trans (Bel.drew (Bel.refl W6)) hb7.bel)
                  refine hK.out _ _ hS2 (fun _ => ?_)
                  clear hK K
                  refine takeD 49 (i := 3) (v := ?v40) rfl rfl (by kernel_rfl) (by kernel_rfl) (by kernel_rfl) (fun _ _ _ h => h) (by kernel_rfl) ?hy40 hS2 ?rest40
                  case hy40 => (intro w0 hSw; obtain ⟨s0, s1, s2, s3, s4⟩ := hSw; first | (go_simp; done) | (go_simp; with_reducible rfl))
                  simp only [List.setIfInBounds_toArray, List.set_cons_zero, List.set_cons_succ]
                  refine takeD 50 (i := 4) (v := ?v41) rfl rfl (by kernel_rfl) (by kernel_rfl) (by kernel_rfl) (fun _ _ _ h => h) (by kernel_rfl) ?hy41 hS2 ?rest41
                  case hy41 => (intro w0 hSw; obtain ⟨s0, s1, s2, s3, s4⟩ := hSw; first | (go_simp; done) | (go_simp; with_reducible rfl))
                  simp only [List.setIfInBounds_toArray, List.set_cons_zero, List.set_cons_succ]
                  refine takeD 51 (i := 5) (v := ?v42) rfl rfl (by kernel_rfl) (by kernel_rfl) (by kernel_rfl) (fun _ _ _ h => h) (by kernel_rfl) ?hy42 hS2 ?rest42
                  case hy42 => (intro w0 hSw; obtain ⟨s0, s1, s2, s3, s4⟩ := hSw; first | (go_simp; done) | (go_simp; with_reducible rfl))
                  simp only [List.setIfInBounds_toArray, List.set_cons_zero, List.set_cons_succ]
                  refine takeD 52 (i := 6) (v := ?v43) rfl rfl (by kernel_rfl) (by kernel_rfl) (by kernel_rfl) (fun _ _ _ h => h) (by kernel_rfl) ?hy43 hS2 ?rest43
                  case hy43 => (intro w0 hSw; obtain ⟨s0, s1, s2, s3, s4⟩ := hSw; first | (go_simp; done) | (go_simp; with_reducible rfl))
                  simp only [List.setIfInBounds_toArray, List.set_cons_zero, List.set_cons_succ]
                  refine takeD 53 (i := 7) (v := ?v44) rfl rfl (by kernel_rfl) (by kernel_rfl) (by kernel_rfl) (fun _ _ _ h => h) (by kernel_rfl) ?hy44 hS2 ?rest44
                  case hy44 => (intro w0 hSw; obtain ⟨s0, s1, s2, s3, s4⟩ := hSw; first | (go_simp; done) | (go_simp; with_reducible rfl))
                  simp only [List.setIfInBounds_toArray, List.set_cons_zero, List.set_cons_succ]
                  refine takeD 54 (i := 8) (v := ?v45) rfl rfl (by kernel_rfl) (by kernel_rfl) (by kernel_rfl) (fun _ _ _ h => h) (by kernel_rfl) ?hy45 hS2 ?rest45
                  case hy45 => (intro w0 hSw; obtain ⟨s0, s1, s2, s3, s4⟩ := hSw; first | (go_simp; done) | (go_simp; with_reducible rfl))
                  simp only [List.setIfInBounds_toArray, List.set_cons_zero, List.set_cons_succ]
                  refine takeD 55 (i := 9) (v := ?v46) rfl rfl (by kernel_rfl) (by kernel_rfl) (by kernel_rfl) (fun _ _ _ h => h) (by kernel_rfl) ?hy46 hS2 ?rest46
                  case hy46 => (intro w0 hSw; obtain ⟨s0, s1, s2, s3, s4⟩ := hSw; first | (go_simp; done) | (go_simp; with_reducible rfl))
                  simp only [List.setIfInBounds_toArray, List.set_cons_zero, List.set_cons_succ]
                  refine onlyD 56 (i := 10) rfl rfl (by kernel_rfl) (by kernel_rfl) (fun K hK => ?_)
                  go_simp
                  go_at_call 27
                  refine (isPlace_lit (by omega) (by have := HLW.out; omega) HR2.out _).mono ?_
                  rintro e w8 ⟨rfl, rfl⟩
                  have hS3 := HCEp.out w7 (Bel.trans (Bel.drew (Bel.refl W6)) hb7.bel)
                  refine hK.out _ _ hS3 (fun _ => ?_)
                  clear hK K
                  refine takeD 57 (i := 11) (v := ?v47) rfl rfl (by kernel_rfl) (by kernel_rfl) (by kernel_rfl) (fun _ _ _ h => h) (by kernel_rfl) ?hy47 hS3 ?rest47
                  case hy47 => (intro w0 hSw; obtain ⟨s0, s1, s2, s3, s4⟩ := hSw; first | (go_simp; done) | (go_simp; with_reducible rfl))
                  simp only [List.setIfInBounds_toArray, List.set_cons_zero, List.set_cons_succ]
                  refine takeD 58 (i := 12) (v := ?v48) rfl rfl (by kernel_rfl) (by kernel_rfl) (by kernel_rfl) (fun _ _ _ h => h) (by kernel_rfl) ?hy48 hS3 ?rest48
                  case hy48 => (intro w0 hSw; obtain ⟨s0, s1, s2, s3, s4⟩ := hSw; first | (go_simp; done) | (go_simp; with_reducible rfl))
                  simp only [List.setIfInBounds_toArray, List.set_cons_zero, List.set_cons_succ]
                  refine takeD 59 (i := 13) (v := ?v49) rfl rfl (by kernel_rfl) (by kernel_rfl) (by kernel_rfl) (fun _ _ _ h => h) (by kernel_rfl) ?hy49 hS3 ?rest49
                  case hy49 => (intro w0 hSw; obtain ⟨s0, s1, s2, s3, s4⟩ := hSw; first | (go_simp; done) | (go_simp; with_reducible rfl))
                  simp only [List.setIfInBounds_toArray, List.set_cons_zero, List.set_cons_succ]
                  refine takeD 60 (i := 14) (v := ?v50) rfl rfl (by kernel_rfl) (by kernel_rfl) (by kernel_rfl) (fun _ _ _ h => h) (by kernel_rfl) ?hy50 hS3 ?rest50
                  case hy50 => (intro w0 hSw; obtain ⟨s0, s1, s2, s3, s4⟩ := hSw; first | (go_simp; done) | (go_simp; with_reducible rfl))
                  simp only [List.setIfInBounds_toArray, List.set_cons_zero, List.set_cons_succ]
                  refine takeD 61 (i := 15) (v := ?v51) rfl rfl (by kernel_rfl) (by kernel_rfl) (by kernel_rfl) (fun _ _ _ h => h) (by kernel_rfl) ?hy51 hS3 ?rest51
                  case hy51 => (intro w0 hSw; obtain ⟨s0, s1, s2, s3, s4⟩ := hSw; first | (go_simp; done) | (go_simp; with_reducible rfl))
                  simp only [List.setIfInBounds_toArray, List.set_cons_zero, List.set_cons_succ]
                  refine takeD 62 (i := 16) (v := ?v52) rfl rfl (by kernel_rfl) (by kernel_rfl) (by kernel_rfl) (fun _ _ _ h => h) (by kernel_rfl) ?hy52 hS3 ?rest52
                  case hy52 => (intro w0 hSw; obtain ⟨s0, s1, s2, s3, s4⟩ := hSw; first | (go_simp; done) | (go_simp; with_reducible rfl))
                  simp only [List.setIfInBounds_toArray, List.set_cons_zero, List.set_cons_succ]
                  refine takeD 63 (i := 17) (v := ?v53) rfl rfl (by kernel_rfl) (by kernel_rfl) (by kernel_rfl) (fun _ _ _ h => h) (by kernel_rfl) ?hy53 hS3 ?rest53
                  case hy53 => (intro w0 hSw; obtain ⟨s0, s1, s2, s3, s4⟩ := hSw; first | (go_simp; done) | (go_simp; with_reducible rfl))
                  simp only [List.setIfInBounds_toArray, List.set_cons_zero, List.set_cons_succ]
                  refine takeD 64 (i := 18) (v := ?v54) rfl rfl (by kernel_rfl) (by kernel_rfl) (by kernel_rfl) (fun _ _ _ h => h) (by kernel_rfl) ?hy54 hS3 ?rest54
                  case hy54 => (intro w0 hSw; obtain ⟨s0, s1, s2, s3, s4⟩ := hSw; first | (go_simp; done) | (go_simp; with_reducible rfl))
                  simp only [List.setIfInBounds_toArray, List.set_cons_zero, List.set_cons_succ]
                  refine takeD 65 (i := 19) (v := ?v55) rfl rfl (by kernel_rfl) (by kernel_rfl) (by kernel_rfl) (fun _ _ _ h => h) (by kernel_rfl) ?hy55 hS3 ?rest55
                  case hy55 => (intro w0 hSw; obtain ⟨s0, s1, s2, s3, s4⟩ := hSw; first | (go_simp; done) | (go_simp; with_reducible rfl))
                  simp only [List.setIfInBounds_toArray, List.set_cons_zero, List.set_cons_succ]
                  refine takeD 66 (i := 20) (v := ?v56) rfl rfl (by kernel_rfl) (by kernel_rfl) (by kernel_rfl) (fun _ _ _ h => h) (by kernel_rfl) ?hy56 hS3 ?rest56
                  case hy56 => (intro w0 hSw; obtain ⟨s0, s1, s2, s3, s4⟩ := hSw; first | (go_simp; done) | (go_simp; with_reducible rfl))
                  simp only [List.setIfInBounds_toArray, List.set_cons_zero, List.set_cons_succ]
                  refine takeD 67 (i := 21) (v := ?v57) rfl rfl (by kernel_rfl) (by kernel_rfl) (by kernel_rfl) (fun _ _ _ h => h) (by kernel_rfl) ?hy57 hS3 ?rest57
                  case hy57 => (intro w0 hSw; obtain ⟨s0, s1, s2, s3, s4⟩ := hSw; first | (go_simp; done) | (go_simp; with_reducible rfl))
                  simp only [List.setIfInBounds_toArray, List.set_cons_zero, List.set_cons_succ]
                  refine takeD 68 (i := 22) (v := ?v58) rfl rfl (by kernel_rfl) (by kernel_rfl) (by kernel_rfl) (fun _ _ _ h => h) (by kernel_rfl) ?hy58 hS3 ?rest58
                  case hy58 => (intro w0 hSw; obtain ⟨s0, s1, s2, s3, s4⟩ := hSw; first | (go_simp; done) | (go_simp; with_reducible rfl))
                  simp only [List.setIfInBounds_toArray, List.set_cons_zero, List.set_cons_succ]
                  refine takeD 69 (i := 23) (v := ?v59) rfl rfl (by kernel_rfl) (by kernel_rfl) (by kernel_rfl) (fun _ _ _ h => h) (by kernel_rfl) ?hy59 hS3 ?rest59
                  case hy59 => (intro w0 hSw; obtain ⟨s0, s1, s2, s3, s4⟩ := hSw; first | (go_simp; done) | (go_simp; with_reducible rfl))
                  simp only [List.setIfInBounds_toArray, List.set_cons_zero, List.set_cons_succ]
                  refine takeD 70 (i := 24) (v := ?v60) rfl rfl (by kernel_rfl) (by kernel_rfl) (by kernel_rfl) (fun _ _ _ h => h) (by kernel_rfl) ?hy60 hS3 ?rest60
                  case hy60 => (intro w0 hSw; obtain ⟨s0, s1, s2, s3, s4⟩ := hSw; first | (go_simp; done) | (go_simp; with_reducible rfl))
                  simp only [List.setIfInBounds_toArray, List.set_cons_zero, List.set_cons_succ]
                  refine takeD 71 (i := 25) (v := ?v61) rfl rfl (by kernel_rfl) (by kernel_rfl) (by kernel_rfl) (fun _ _ _ h => h) (by kernel_rfl) ?hy61 hS3 ?rest61
                  case hy61 => (intro w0 hSw; obtain ⟨s0, s1, s2, s3, s4⟩ := hSw; first | (go_simp; done) | (go_simp; with_reducible rfl))
                  simp only [List.setIfInBounds_toArray, List.set_cons_zero, List.set_cons_succ]
                  refine takeD 72 (i := 26) (v := ?v62) rfl rfl (by kernel_rfl) (by kernel_rfl) (by kernel_rfl) (fun _ _ _ h => h) (by kernel_rfl) ?hy62 hS3 ?rest62
                  case hy62 => (intro w0 hSw; obtain ⟨s0, s1, s2, s3, s4⟩ := hSw; first | (go_simp; done) | (go_simp; with_reducible rfl))
                  simp only [List.setIfInBounds_toArray, List.set_cons_zero, List.set_cons_succ]
                  refine takeD 73 (i := 27) (v := ?v63) rfl rfl (by kernel_rfl) (by kernel_rfl) (by kernel_rfl) (fun _ _ _ h => h) (by kernel_rfl) ?hy63 hS3 ?rest63
                  case hy63 => (intro w0 hSw; obtain ⟨s0, s1, s2, s3, s4⟩ := hSw; first | (go_simp; done) | (go_simp; with_reducible rfl))
                  simp only [List.setIfInBounds_toArray, List.set_cons_zero, List.set_cons_succ]
                  refine takeD 74 (i := 28) (v := ?v64) rfl rfl (by kernel_rfl) (by kernel_rfl) (by kernel_rfl) (fun _ _ _ h => h) (by kernel_rfl) ?hy64 hS3 ?rest64
                  case hy64 => (intro w0 hSw; obtain ⟨s0, s1, s2, s3, s4⟩ := hSw; first | (go_simp; done) | (go_simp; with_reducible rfl))
                  simp only [List.setIfInBounds_toArray, List.set_cons_zero, List.set_cons_succ]
                  refine wpAnyH_done (by kernel_rfl) ?_ _
                  have HST7 := Lib.hid (HSTN.out w7 (Bel.trans (Bel.drew (Bel.refl W6)) hb7.bel))
                  have HB7 : Hid (Bel w w7) := Bel.trans HB6.out (Bel.trans (Bel.drew (Bel.refl W6)) hb7.bel)
                  clear hb7 hS hS2 hS3
                  have HN9 : Hid (Bel w w7 ∧ w7.heap[bx]? = some (.cells #[.slice wp m.words.length wc, .int .i64 m.mem, .slice (some ⟨b, o, none⟩) m.syms.length sc] 25 (0, 0)) ∧ ∀ i, i < (j + 1) + 1 → symOk m i = true) := ⟨HB7.out, HST7.out, fun i hi => by
                    by_cases e : i = (j + 1)
                    · rw [e]; exact HOK.out
                    · exact HA.out.2.2 i (by omega)⟩
                  go_wp2_with fail
                  go_roundw
                  case rel => exact ⟨(j + 1) + 1, HLT.out, by go_num, HN9.out⟩
                  case measure => simp [intOf]; have := HLT.out; omega
                | false =>
                  have HF := Lib.hid (right_sym HLT.out (HSY.out.trans (by rw [hpv, hl]; rfl)))
                  have hl2 : Op.bytesLess ys.toList xs.toList = false := hl
                  clear hl hpv
                  have vj : IntKind.i64.wrap (j : Int) = j := IntWalk.i64_in _ (by constructor <;> (have := HLT.out; omega))
                  have vj1 : (0 : Int) ≤ (j : Int) := by omega
                  have vj2 : (j : Int) < (m.syms.length : Int) := by have := HLT.out; omega
                  refine wp_region_held_drew (S := (S12p bx xB wp (some ⟨b, o, none⟩) wc sc m xs xp b (o + j * 2) ys)) (by kernel_rfl) (HCEp.out _ (Bel.refl _).drew) (fun hS => ?_)
                  refine takeD 46 (i := 0) (v := ?v65) rfl rfl (by kernel_rfl) (by kernel_rfl) (by kernel_rfl) (fun _ _ _ h => h) (by kernel_rfl) ?hy65 hS ?rest65
                  case hy65 => (intro w0 hSw; obtain ⟨s0, s1, s2, s3, s4⟩ := hSw; first | (go_simp; done) | (go_simp; with_reducible rfl))
                  simp only [List.setIfInBounds_toArray, List.set_cons_zero, List.set_cons_succ]
                  refine takeD 47 (i := 1) (v := ?v66) rfl rfl (by kernel_rfl) (by kernel_rfl) (by kernel_rfl) (fun _ _ _ h => h) (by kernel_rfl) ?hy66 hS ?rest66
                  case hy66 => (intro w0 hSw; obtain ⟨s0, s1, s2, s3, s4⟩ := hSw; first | (go_simp; done) | (go_simp; with_reducible rfl))
                  simp only [List.setIfInBounds_toArray, List.set_cons_zero, List.set_cons_succ]
                  refine onlyD 48 (i := 2) rfl rfl (by kernel_rfl) (by kernel_rfl) (fun K hK => ?_)
                  go_simp
                  go_at_call 26
                  refine (isName_lit HR1.out HNS.out _).mono ?_
                  rintro e w7 ⟨rfl, hb7⟩
                  have hS2 := HCEp.out w7 (Bel.trans (Bel.drew (Bel.refl W6)) hb7.bel)
                  refine hK.out _ _ hS2 (fun _ => ?_)
                  clear hK K
                  refine takeD 49 (i := 3) (v := ?v67) rfl rfl (by kernel_rfl) (by kernel_rfl) (by kernel_rfl) (fun _ _ _ h => h) (by kernel_rfl) ?hy67 hS2 ?rest67
                  case hy67 => (intro w0 hSw; obtain ⟨s0, s1, s2, s3, s4⟩ := hSw; first | (go_simp; done) | (go_simp; with_reducible rfl))
                  simp only [List.setIfInBounds_toArray, List.set_cons_zero, List.set_cons_succ]
                  refine takeD 50 (i := 4) (v := ?v68) rfl rfl (by kernel_rfl) (by kernel_rfl) (by kernel_rfl) (fun _ _ _ h => h) (by kernel_rfl) ?hy68 hS2 ?rest68
                  case hy68 => (intro w0 hSw; obtain ⟨s0, s1, s2, s3, s4⟩ := hSw; first | (go_simp; done) | (go_simp; with_reducible rfl))
                  simp only [List.setIfInBounds_toArray, List.set_cons_zero, List.set_cons_succ]
                  refine takeD 51 (i := 5) (v := ?v69) rfl rfl (by kernel_rfl) (by kernel_rfl) (by kernel_rfl) (fun _ _ _ h => h) (by kernel_rfl) ?hy69 hS2 ?rest69
                  case hy69 => (intro w0 hSw; obtain ⟨s0, s1, s2, s3, s4⟩ := hSw; first | (go_simp; done) | (go_simp; with_reducible rfl))
                  simp only [List.setIfInBounds_toArray, List.set_cons_zero, List.set_cons_succ]
                  refine takeD 52 (i := 6) (v := ?v70) rfl rfl (by kernel_rfl) (by kernel_rfl) (by kernel_rfl) (fun _ _ _ h => h) (by kernel_rfl) ?hy70 hS2 ?rest70
                  case hy70 => (intro w0 hSw; obtain ⟨s0, s1, s2, s3, s4⟩ := hSw; first | (go_simp; done) | (go_simp; with_reducible rfl))
                  simp only [List.setIfInBounds_toArray, List.set_cons_zero, List.set_cons_succ]
                  refine takeD 53 (i := 7) (v := ?v71) rfl rfl (by kernel_rfl) (by kernel_rfl) (by kernel_rfl) (fun _ _ _ h => h) (by kernel_rfl) ?hy71 hS2 ?rest71
                  case hy71 => (intro w0 hSw; obtain ⟨s0, s1, s2, s3, s4⟩ := hSw; first | (go_simp; done) | (go_simp; with_reducible rfl))
                  simp only [List.setIfInBounds_toArray, List.set_cons_zero, List.set_cons_succ]
                  refine takeD 54 (i := 8) (v := ?v72) rfl rfl (by kernel_rfl) (by kernel_rfl) (by kernel_rfl) (fun _ _ _ h => h) (by kernel_rfl) ?hy72 hS2 ?rest72
                  case hy72 => (intro w0 hSw; obtain ⟨s0, s1, s2, s3, s4⟩ := hSw; first | (go_simp; done) | (go_simp; with_reducible rfl))
                  simp only [List.setIfInBounds_toArray, List.set_cons_zero, List.set_cons_succ]
                  refine takeD 55 (i := 9) (v := ?v73) rfl rfl (by kernel_rfl) (by kernel_rfl) (by kernel_rfl) (fun _ _ _ h => h) (by kernel_rfl) ?hy73 hS2 ?rest73
                  case hy73 => (intro w0 hSw; obtain ⟨s0, s1, s2, s3, s4⟩ := hSw; first | (go_simp; done) | (go_simp; with_reducible rfl))
                  simp only [List.setIfInBounds_toArray, List.set_cons_zero, List.set_cons_succ]
                  refine onlyD 56 (i := 10) rfl rfl (by kernel_rfl) (by kernel_rfl) (fun K hK => ?_)
                  go_simp
                  go_at_call 27
                  refine (isPlace_lit (by omega) (by have := HLW.out; omega) HR2.out _).mono ?_
                  rintro e w8 ⟨rfl, rfl⟩
                  have hS3 := HCEp.out w7 (Bel.trans (Bel.drew (Bel.refl W6)) hb7.bel)
                  refine hK.out _ _ hS3 (fun _ => ?_)
                  clear hK K
                  refine takeD 57 (i := 11) (v := ?v74) rfl rfl (by kernel_rfl) (by kernel_rfl) (by kernel_rfl) (fun _ _ _ h => h) (by kernel_rfl) ?hy74 hS3 ?rest74
                  case hy74 => (intro w0 hSw; obtain ⟨s0, s1, s2, s3, s4⟩ := hSw; first | (go_simp; done) | (go_simp; with_reducible rfl))
                  simp only [List.setIfInBounds_toArray, List.set_cons_zero, List.set_cons_succ]
                  refine takeD 58 (i := 12) (v := ?v75) rfl rfl (by kernel_rfl) (by kernel_rfl) (by kernel_rfl) (fun _ _ _ h => h) (by kernel_rfl) ?hy75 hS3 ?rest75
                  case hy75 => (intro w0 hSw; obtain ⟨s0, s1, s2, s3, s4⟩ := hSw; first | (go_simp; done) | (go_simp; with_reducible rfl))
                  simp only [List.setIfInBounds_toArray, List.set_cons_zero, List.set_cons_succ]
                  refine takeD 59 (i := 13) (v := ?v76) rfl rfl (by kernel_rfl) (by kernel_rfl) (by kernel_rfl) (fun _ _ _ h => h) (by kernel_rfl) ?hy76 hS3 ?rest76
                  case hy76 => (intro w0 hSw; obtain ⟨s0, s1, s2, s3, s4⟩ := hSw; first | (go_simp; done) | (go_simp; with_reducible rfl))
                  simp only [List.setIfInBounds_toArray, List.set_cons_zero, List.set_cons_succ]
                  refine takeD 60 (i := 14) (v := ?v77) rfl rfl (by kernel_rfl) (by kernel_rfl) (by kernel_rfl) (fun _ _ _ h => h) (by kernel_rfl) ?hy77 hS3 ?rest77
                  case hy77 => (intro w0 hSw; obtain ⟨s0, s1, s2, s3, s4⟩ := hSw; first | (go_simp; done) | (go_simp; with_reducible rfl))
                  simp only [List.setIfInBounds_toArray, List.set_cons_zero, List.set_cons_succ]
                  refine takeD 61 (i := 15) (v := ?v78) rfl rfl (by kernel_rfl) (by kernel_rfl) (by kernel_rfl) (fun _ _ _ h => h) (by kernel_rfl) ?hy78 hS3 ?rest78
                  case hy78 => (intro w0 hSw; obtain ⟨s0, s1, s2, s3, s4⟩ := hSw; first | (go_simp; done) | (go_simp; with_reducible rfl))
                  simp only [List.setIfInBounds_toArray, List.set_cons_zero, List.set_cons_succ]
                  refine takeD 62 (i := 16) (v := ?v79) rfl rfl (by kernel_rfl) (by kernel_rfl) (by kernel_rfl) (fun _ _ _ h => h) (by kernel_rfl) ?hy79 hS3 ?rest79
                  case hy79 => (intro w0 hSw; obtain ⟨s0, s1, s2, s3, s4⟩ := hSw; first | (go_simp; done) | (go_simp; with_reducible rfl))
                  simp only [List.setIfInBounds_toArray, List.set_cons_zero, List.set_cons_succ]
                  refine takeD 63 (i := 17) (v := ?v80) rfl rfl (by kernel_rfl) (by kernel_rfl) (by kernel_rfl) (fun _ _ _ h => h) (by kernel_rfl) ?hy80 hS3 ?rest80
                  case hy80 => (intro w0 hSw; obtain ⟨s0, s1, s2, s3, s4⟩ := hSw; first | (go_simp; done) | (go_simp; with_reducible rfl))
                  simp only [List.setIfInBounds_toArray, List.set_cons_zero, List.set_cons_succ]
                  refine takeD 64 (i := 18) (v := ?v81) rfl rfl (by kernel_rfl) (by kernel_rfl) (by kernel_rfl) (fun _ _ _ h => h) (by kernel_rfl) ?hy81 hS3 ?rest81
                  case hy81 => (intro w0 hSw; obtain ⟨s0, s1, s2, s3, s4⟩ := hSw; first | (go_simp; done) | (go_simp; with_reducible rfl))
                  simp only [List.setIfInBounds_toArray, List.set_cons_zero, List.set_cons_succ]
                  refine takeD 65 (i := 19) (v := ?v82) rfl rfl (by kernel_rfl) (by kernel_rfl) (by kernel_rfl) (fun _ _ _ h => h) (by kernel_rfl) ?hy82 hS3 ?rest82
                  case hy82 => (intro w0 hSw; obtain ⟨s0, s1, s2, s3, s4⟩ := hSw; first | (go_simp; done) | (go_simp; with_reducible rfl))
                  simp only [List.setIfInBounds_toArray, List.set_cons_zero, List.set_cons_succ]
                  refine takeD 66 (i := 20) (v := ?v83) rfl rfl (by kernel_rfl) (by kernel_rfl) (by kernel_rfl) (fun _ _ _ h => h) (by kernel_rfl) ?hy83 hS3 ?rest83
                  case hy83 => (intro w0 hSw; obtain ⟨s0, s1, s2, s3, s4⟩ := hSw; first | (go_simp; done) | (go_simp; with_reducible rfl))
                  simp only [List.setIfInBounds_toArray, List.set_cons_zero, List.set_cons_succ]
                  refine takeD 67 (i := 21) (v := ?v84) rfl rfl (by kernel_rfl) (by kernel_rfl) (by kernel_rfl) (fun _ _ _ h => h) (by kernel_rfl) ?hy84 hS3 ?rest84
                  case hy84 => (intro w0 hSw; obtain ⟨s0, s1, s2, s3, s4⟩ := hSw; first | (go_simp; done) | (go_simp; with_reducible rfl))
                  simp only [List.setIfInBounds_toArray, List.set_cons_zero, List.set_cons_succ]
                  refine takeD 68 (i := 22) (v := ?v85) rfl rfl (by kernel_rfl) (by kernel_rfl) (by kernel_rfl) (fun _ _ _ h => h) (by kernel_rfl) ?hy85 hS3 ?rest85
                  case hy85 => (intro w0 hSw; obtain ⟨s0, s1, s2, s3, s4⟩ := hSw; first | (go_simp; done) | (go_simp; with_reducible rfl))
                  simp only [List.setIfInBounds_toArray, List.set_cons_zero, List.set_cons_succ]
                  refine takeD 69 (i := 23) (v := ?v86) rfl rfl (by kernel_rfl) (by kernel_rfl) (by kernel_rfl) (fun _ _ _ h => h) (by kernel_rfl) ?hy86 hS3 ?rest86
                  case hy86 => (intro w0 hSw; obtain ⟨s0, s1, s2, s3, s4⟩ := hSw; first | (go_simp; done) | (go_simp; with_reducible rfl))
                  simp only [List.setIfInBounds_toArray, List.set_cons_zero, List.set_cons_succ]
                  refine takeD 70 (i := 24) (v := ?v87) rfl rfl (by kernel_rfl) (by kernel_rfl) (by kernel_rfl) (fun _ _ _ h => h) (by kernel_rfl) ?hy87 hS3 ?rest87
                  case hy87 => (intro w0 hSw; obtain ⟨s0, s1, s2, s3, s4⟩ := hSw; first | (go_simp; done) | (go_simp; with_reducible rfl))
                  simp only [List.setIfInBounds_toArray, List.set_cons_zero, List.set_cons_succ]
                  refine takeD 71 (i := 25) (v := ?v88) rfl rfl (by kernel_rfl) (by kernel_rfl) (by kernel_rfl) (fun _ _ _ h => h) (by kernel_rfl) ?hy88 hS3 ?rest88
                  case hy88 => (intro w0 hSw; obtain ⟨s0, s1, s2, s3, s4⟩ := hSw; first | (go_simp; done) | (go_simp; with_reducible rfl))
                  simp only [List.setIfInBounds_toArray, List.set_cons_zero, List.set_cons_succ]
                  refine takeD 72 (i := 26) (v := ?v89) rfl rfl (by kernel_rfl) (by kernel_rfl) (by kernel_rfl) (fun _ _ _ h => h) (by kernel_rfl) ?hy89 hS3 ?rest89
                  case hy89 => (intro w0 hSw; obtain ⟨s0, s1, s2, s3, s4⟩ := hSw; first | (go_simp; done) | (go_simp; with_reducible rfl))
                  simp only [List.setIfInBounds_toArray, List.set_cons_zero, List.set_cons_succ]
                  refine takeD 73 (i := 27) (v := ?v90) rfl rfl (by kernel_rfl) (by kernel_rfl) (by kernel_rfl) (fun _ _ _ h => h) (by kernel_rfl) ?hy90 hS3 ?rest90
                  case hy90 => (intro w0 hSw; obtain ⟨s0, s1, s2, s3, s4⟩ := hSw; first | (go_simp; done) | (go_simp; with_reducible rfl))
                  simp only [List.setIfInBounds_toArray, List.set_cons_zero, List.set_cons_succ]
                  refine takeD 74 (i := 28) (v := ?v91) rfl rfl (by kernel_rfl) (by kernel_rfl) (by kernel_rfl) (fun _ _ _ h => h) (by kernel_rfl) ?hy91 hS3 ?rest91
                  case hy91 => (intro w0 hSw; obtain ⟨s0, s1, s2, s3, s4⟩ := hSw; first | (go_simp; done) | (go_simp; with_reducible rfl))
                  simp only [List.setIfInBounds_toArray, List.set_cons_zero, List.set_cons_succ]
                  refine wpAnyH_done (by kernel_rfl) ?_ _
                  have HB7 : Hid (Bel w w7) := Bel.trans HB6.out (Bel.trans (Bel.drew (Bel.refl W6)) hb7.bel)
                  clear hb7 hS hS2 hS3
                  go_wp2_with fail
                  go_ret
                  exact ⟨rb (by first | exact HF.out.symm | exact HF.out.symm.trans HRR.out), HB7.out⟩
        · obtain rfl : k = m.syms.length := by omega
          have HF := Lib.hid (right_yes h1 h2 h3 h4 HWD.out HA.out.2.2)
          go_wp2_with fail
          go_ret
          exact ⟨rb (by first | exact HF.out.symm | exact HF.out.symm.trans HRR.out), HA.out.1⟩
end Go.Proofs.YtbfmlbcjggplgaaGreatDoor
