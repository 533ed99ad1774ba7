/- Of a raw image one that may be. -/
import Derived.Test.YtbfmlbcjggplgaaGreatDoorIFitS
import Derived.Deep.DeepCutAuto
namespace Go.Proofs.YtbfmlbcjggplgaaGreatDoor
open Go.RowKit Im
set_option linter.unusedVariables false
/-- what Fit hands back, and that its rows are its own -/
def FitOwn (raw : Img) (w : World) (e : Ending) (w' : World) : Prop := Bel w w' ∧ ∃ p q c d, e = .returned (imgV p q c d (fitV raw)) ∧ ImgAt w' p q (fitV raw) ∧
  ERow icell 3 1 w' w.heap.size (.slice p (fitV raw).words.length c) (fitV raw).words ∧ ERow scell 42 2 w' w.heap.size (.slice q (fitV raw).syms.length d) (fitV raw).syms
/-- what Fit hands back -/
def FitPost (raw : Img) (w : World) (e : Ending) (w' : World) : Prop := Bel w w' ∧ ∃ p q c d, e = .returned (imgV p q c d (fitV raw)) ∧ ImgAt w' p q (fitV raw)
def nameCells : Array Value := #[.string ⟨#[46, 120]⟩, .string ⟨#[97]⟩, .string ⟨#[97, 98]⟩, .string ⟨#[98]⟩, .string ⟨#[99, 111, 100, 101]⟩, .string ⟨#[109, 97, 105, 110]⟩, .string ⟨#[115, 117, 109]⟩, .string ⟨#[126]⟩]
theorem nameCells_get (j : Nat) (h : j < 8) : nameCells[j]? = some (.string (names.getD j ⟨#[]⟩)) := by
  rcases (show j = 0 ∨ j = 1 ∨ j = 2 ∨ j = 3 ∨ j = 4 ∨ j = 5 ∨ j = 6 ∨ j = 7 by omega) with rfl | rfl | rfl | rfl | rfl | rfl | rfl | rfl <;> rfl
theorem find_at {α : Type} (p : α → Bool) : ∀ (l : List α) (k : Nat) (x : α), l[k]? = some x → p x = true → (∀ (t : Nat) (y : α), t < k → l[t]? = some y → p y = false) → l.find? p = some x := by
  intro l
  induction l with
  | nil => intro k x h; simp at h
  | cons a l ih =>
    intro k x h hx hb
    cases k with
    | zero =>
      simp at h
      subst h
      simp [hx]
    | succ k =>
      have h0 := hb 0 a (by omega) rfl
      rw [List.find?_cons, h0]
      exact ih k x (by simpa using h) hx (fun t y ht hy => hb (t + 1) y (by omega) (by simpa using hy))
theorem find_non {α : Type} (p : α → Bool) (l : List α) (hb : ∀ (t : Nat) (y : α), t < l.length → l[t]? = some y → p y = false) : l.find? p = none := by
  rw [List.find?_eq_none]
  intro x hx
  obtain ⟨t, ht⟩ := List.getElem?_of_mem hx
  rw [hb t x (List.getElem?_eq_some_iff.1 ht).1 ht]
  exact Bool.false_ne_true
theorem symFor_yes {raw : Img} {n j k : Nat} {x : Sym} (hx : raw.syms[k]? = some x) (hk : keyOf x = (j : Int)) (hb : ∀ (t : Nat) (y : Sym), t < k → raw.syms[t]? = some y → ¬ keyOf y = (j : Int)) : symFor raw n j = [⟨names.getD j ⟨#[]⟩, 4 * pick x.place ((n : Int) + 1)⟩] := by
  unfold symFor
  rw [find_at (fun x => keyOf x == (j : Int)) raw.syms k x hx (by simp [hk]) (fun t y ht hy => by simpa using hb t y ht hy)]
theorem symFor_no {raw : Img} {n j : Nat} (hb : ∀ (t : Nat) (y : Sym), t < raw.syms.length → raw.syms[t]? = some y → ¬ keyOf y = (j : Int)) : symFor raw n j = [] := by
  unfold symFor
  rw [find_non (fun x => keyOf x == (j : Int)) raw.syms (fun t y ht hy => by simpa using hb t y ht hy)]
theorem pick_same {c n r : Int} (h : pick c n = r) (hc : inInt c) (h3 : 1 ≤ n) (w : World) : Calls Tryz.prog 17 #[.int .i64 c, .int .i64 n] w fun e w' => e = .returned (.int .i64 r) ∧ w' = w := (pick_lit h hc h3 w).mono fun e w' h => ⟨h.1, h.2.symm⟩
def S14 (bx b3 bn b o n cs k j nW cW : Nat) (pW : Option Addr) (xp : Int) (nm : ByteArray) (W : World) : Prop := W.cell? ⟨bx, 2, none⟩ = some (.slice (some ⟨b, o, none⟩) n cs) ∧ W.cell? ⟨b, o + k * 2 + 1, none⟩ = some (.int .i64 xp) ∧ W.cell? ⟨b3, 0, none⟩ = some (.slice pW nW cW) ∧ W.cell? ⟨bn, j, none⟩ = some (.string nm)
theorem erow_at {α : Type} {enc : α → List Value} {t : TypeId} {k : Nat} (hk : ∀ x, (enc x).length = k) {W : World} {base : Nat} {p : Option Addr} {n c : Nat} {l : List α} (h : ERow enc t k W base (.slice p n c) l) :
    EncAt enc k W p l ∧ ∀ {g : Nat} {cs : Array Value} {t' : TypeId} {fr : Nat × Nat}, W.heap[g]? = some (.cells cs t' fr) → t ≠ t' → ∀ q, p = some q → q.block ≠ g := by
  obtain ⟨p', c', hv, h1, _⟩ := ERow.form hk h
  injection hv with hp _ _
  subst hp
  refine ⟨h1, fun {g cs t' fr} hg ht q hq e => ?_⟩
  rcases h.2 with ⟨hn, _⟩ | ⟨g', cap, cur, hv, hb, hgg, _⟩
  · injection hn with hp _ _
    rw [hp] at hq
    cases hq
  · injection hv with hp _ _
    rw [hq] at hp
    injection hp with hp
    subst hp
    have e' : g' = g := e
    subst e'
    rw [hgg] at hg
    injection hg with hg
    injection hg with _ h2 _
    exact ht h2
theorem ne_types {W : World} {g g' : Nat} {cs cs' : Array Value} {t t' : TypeId} {fr fr' : Nat × Nat} (h : W.heap[g]? = some (.cells cs t fr)) (h' : W.heap[g']? = some (.cells cs' t' fr')) (ht : t ≠ t') : g ≠ g' := by
  rintro rfl
  rw [h] at h'
  injection h' with h'
  injection h' with _ h2 _
  exact ht h2
def S5 (bx b o n c k : Nat) (x : Int) (W : World) : Prop := W.cell? ⟨bx, 0, none⟩ = some (.slice (some ⟨b, o, none⟩) n c) ∧ W.cell? ⟨b, o + k, none⟩ = some (.int .i64 x)
set_option maxRecDepth 100000 in
set_option maxHeartbeats 16000000 in
set_option linter.unusedSimpArgs false in
theorem fit_own {wp sp : Option Addr} {wc sc : Nat} {raw : Img} (w : World) (H : Hid (ImgAt w wp sp raw)) :
    Calls Tryz.prog 6 #[imgV wp sp wc sc raw] w (FitOwn raw w) := by
  have lw := H.out.lw
  have ls := H.out.ls
  have HMI : Hid (inInt raw.mem) := Lib.hid H.out.mem
  obtain ⟨pm, hpm⟩ : ∃ y, pick raw.mem 4097 = y := ⟨_, rfl⟩
  have HPM := Lib.hid hpm
  clear hpm
  go_enter Tryz.func6, Tryz.ntmps6
  go_wp2_with (go_at_call 17; ((with_reducible refine (pick_lit HPM.out HMI.out (by decide) _).mono ?_); rintro e w7 ⟨rfl, rfl⟩))
  obtain ⟨g0, g1, g2, g3⟩ := three_new w #[.slice wp raw.words.length wc, .int .i64 raw.mem, .slice sp raw.syms.length sc] #[.slice none 0 0, .int .i64 0, .slice none 0 0] #[.slice none 0 0, .int .i64 pm, .slice none 0 0] 25 25 25
  generalize ((w.alloc (.cells #[.slice wp raw.words.length wc, .int .i64 raw.mem, .slice sp raw.syms.length sc] 25)).alloc (.cells #[.slice none 0 0, .int .i64 0, .slice none 0 0] 25)).alloc (.cells #[.slice none 0 0, .int .i64 pm, .slice none 0 0] 25) = W0 at g0 g1 g2 g3 ⊢
  obtain ⟨bx, hbx⟩ : ∃ b, b = w.heap.size := ⟨_, rfl⟩
  rw [← hbx] at g1 g2 g3 ⊢
  have HF0 : Hid (FitSt w bx (bx + 1 + 1) #[.slice wp raw.words.length wc, .int .i64 raw.mem, .slice sp raw.syms.length sc] pm (.slice none 0 0) [] (.slice none 0 0) [] W0) := Lib.hid ⟨g0, g1, g3, ERow.nil _ _ _ _ _, ERow.nil _ _ _ _ _, by omega, by omega⟩
  have HRES := Lib.hid g2
  have HBX := Lib.hid hbx
  clear g0 g1 g2 g3 hbx
  go_loopw [4] (fun i wr => ∃ (k : Nat) (vW : Value), k ≤ fitLen raw ∧ i = .int .i64 k ∧ (∃ p c, vW = .slice p k c) ∧ Hid (FitSt w bx (bx + 1 + 1) #[.slice wp raw.words.length wc, .int .i64 raw.mem, .slice sp raw.syms.length sc] pm vW (fitWords raw k) (.slice none 0 0) [] wr ∧ wr.heap[bx + 1]? = some (.cells #[.slice none 0 0, .int .i64 0, .slice none 0 0] 25 (0, 0)))) (fun i _ => fitLen raw - (intOf i).toNat)
  case atStart => exact ⟨0, _, Nat.zero_le _, rfl, ⟨none, 0, rfl⟩, HF0.out, HRES.out⟩
  case round =>
    obtain ⟨k, vW, hk, rfl, ⟨pW, cW, rfl⟩, HA⟩ := hrel
    have hfl : fitLen raw ≤ 40 ∧ fitLen raw ≤ raw.words.length := by unfold fitLen; omega
    have q0 : wr.cell? ⟨bx, 0, none⟩ = some (.slice wp raw.words.length wc) := cell_of_heap HA.out.1.hbx 0
    by_cases hlt : k < fitLen raw
    · have hlt1 : (k : Int) < (raw.words.length : Int) := by omega
      have hlt2 : (k : Int) < 40 := by omega
      obtain ⟨x, hx⟩ : ∃ x, raw.words[k]? = some x := ⟨_, List.getElem?_eq_getElem (by omega)⟩
      have hsu := fitWords_succ hx
      have HX : Hid (inInt x) := Lib.hid (H.out.wfw x (List.mem_of_getElem? hx))
      obtain ⟨y, hy⟩ : ∃ y, pick x 4294967296 = y := ⟨_, rfl⟩
      have HY := Lib.hid hy
      rw [hy] at hsu
      obtain ⟨b, o, hwp, hbl, e1⟩ := IntsQ.get (H.out.words.bel HA.out.1.bel) hx
      obtain ⟨b', o', hwp', hbw, e0⟩ := IntsQ.get H.out.words hx
      obtain ⟨rfl, rfl⟩ : b = b' ∧ o = o' := by rw [hwp] at hwp'; simpa using hwp'
      subst hwp
      have hFd := HA.out.1.bel' ((Bel.refl wr).drew)
      have hRd : wr.drew.heap[bx + 1]? = some (.cells #[.slice none 0 0, .int .i64 0, .slice none 0 0] 25 (0, 0)) := HA.out.2
      obtain ⟨v', W2, hrun, hc3, hf3, ⟨p', c', hv'⟩, hall, hF2⟩ := hFd.word y (by unfold fitWords; rw [List.length_map, List.length_take]; omega)
      have hlenk : (fitWords raw k).length = k := by unfold fitWords; rw [List.length_map, List.length_take]; omega
      rw [hlenk] at hv'
      subst hv'
      have hres2 : W2.heap[bx + 1]? = some (.cells #[.slice none 0 0, .int .i64 0, .slice none 0 0] 25 (0, 0)) := hall _ _ _ _ hRd (.inl (by decide))
      have HN : Hid (FitSt w bx (bx + 1 + 1) #[.slice (some ⟨b, o, none⟩) raw.words.length wc, .int .i64 raw.mem, .slice sp raw.syms.length sc] pm (.slice p' (k + 1) c') (fitWords raw (k + 1)) (.slice none 0 0) [] (W2.setCell ⟨bx + 1 + 1, 0, none⟩ (.slice p' (k + 1) c')) ∧ (W2.setCell ⟨bx + 1 + 1, 0, none⟩ (.slice p' (k + 1) c')).heap[bx + 1]? = some (.cells #[.slice none 0 0, .int .i64 0, .slice none 0 0] 25 (0, 0))) := Lib.hid ⟨by rw [hsu]; exact hF2, by rw [heap_setCell_other _ _ _ _ (show bx + 1 ≠ bx + 1 + 1 by omega)]; exact hres2⟩
      have hblock : ∃ cs t fr, wr.drew.heap[b]? = some (.cells cs t fr) := by
        have hc : wr.drew.cell? ⟨b, o + k, none⟩ = some (.int .i64 x) := e1
        unfold World.cell? at hc
        split at hc
        · rename_i cs t fr hh
          exact ⟨cs, t, fr, hh⟩
        · cases hc
      obtain ⟨bcs, bt, bfr, hbk⟩ := hblock
      have hS0 : S5 bx b o raw.words.length wc k x wr.drew := ⟨q0, e1⟩
      have hbk2 : W2.heap[b]? = some (.cells bcs bt bfr) := hall _ _ _ _ hbk (.inr hbw)
      have hbx2 : W2.heap[bx]? = some (.cells #[.slice (some ⟨b, o, none⟩) raw.words.length wc, .int .i64 raw.mem, .slice sp raw.syms.length sc] 25 (0, 0)) := hall _ _ _ _ hFd.hbx (.inl (by decide))
      have e1' : bcs[o + k]? = some (.int .i64 x) := by rw [← cell_of_heap hbk]; exact e1
      have hS2 : S5 bx b o raw.words.length wc k x W2 := ⟨cell_of_heap hbx2 0, by rw [cell_of_heap hbk2]; exact e1'⟩
      have hS3 : S5 bx b o raw.words.length wc k x (W2.setCell ⟨bx + 1 + 1, 0, none⟩ (.slice p' (k + 1) c')) := by
        refine ⟨?_, ?_⟩
        · rw [cell_of_heap (fr := (0, 0)) (cs := #[.slice (some ⟨b, o, none⟩) raw.words.length wc, .int .i64 raw.mem, .slice sp raw.syms.length sc]) (t := 25) (by rw [heap_setCell_other _ _ _ _ (show bx ≠ bx + 1 + 1 by omega)]; exact hbx2)]
          rfl
        · rw [cell_of_heap (by rw [heap_setCell_other _ _ _ _ (show b ≠ bx + 1 + 1 by have := HBX.out; omega)]; exact hbk2)]
          exact e1'
      have hSA : S5 bx b o raw.words.length wc k x (wr.drew.alloc (.cells #[.int .i64 y] 3)) := by
        have hb := (Bel.refl wr.drew).alloc #[.int .i64 y] 3
        exact ⟨(hb.cell (p := ⟨bx, 0, none⟩) (lt_of_heap hFd.hbx)).trans q0, (hb.cell (p := ⟨b, o + k, none⟩) (lt_of_heap hbk)).trans e1⟩
      have hc0 : wr.drew.cell? ⟨bx + 1 + 1, 0, none⟩ = some (.slice pW k cW) := cell_of_heap hFd.hb3 0
      have hc0A : (wr.drew.alloc (.cells #[.int .i64 y] 3)).cell? ⟨bx + 1 + 1, 0, none⟩ = some (.slice pW k cW) := (((Bel.refl wr.drew).alloc _ _).cell (p := ⟨bx + 1 + 1, 0, none⟩) (lt_of_heap hFd.hb3)).trans hc0
      obtain ⟨WA, hWA⟩ : ∃ W, wr.drew.alloc (.cells #[.int .i64 y] 3) = W := ⟨_, rfl⟩
      have HWA : Hid ((wr.alloc (.cells #[.int .i64 y] 3)).drew = WA) := Lib.hid hWA
      rw [hWA] at hrun hSA hc0A
      have HC0A := Lib.hid hc0A
      clear hc0A hWA
      have HRUN := Lib.hid hrun
      have HC3 := Lib.hid hc3
      have HF3 := Lib.hid hf3
      have HC0 := Lib.hid hc0
      have HS0 := Lib.hid hS0
      have HSA := Lib.hid hSA
      have HS2 := Lib.hid hS2
      have HS3 := Lib.hid hS3
      have HLT := Lib.hid (show k + 1 ≤ fitLen raw from hlt)
      clear hx hsu hy hwp' hFd hRd hrun hc3 hf3 hall hF2 hlenk hres2 bcs bt bfr hbk hbk2 hbx2 e1' hS2 hS3 hSA hc0 hfl hbl e0 hbw
      go_wp2_with fail
      clear q0 hlt e1
      refine wp_region_held_drew (S := S5 bx b o raw.words.length wc k x) (by kernel_rfl) (HS0.out) (fun hS => ?_)
      refine takeD 23 (i := 0) (v := ?v1) rfl rfl (by kernel_rfl) (by kernel_rfl) (by kernel_rfl) (fun _ _ _ h => h) (by kernel_rfl) ?hy1 hS ?rest1
      case hy1 => (intro w0 hSw; obtain ⟨s0, s1⟩ := hSw; first | (go_simp; done) | (go_simp; with_reducible rfl))
      simp only [List.setIfInBounds_toArray, List.set_cons_zero, List.set_cons_succ]
      refine takeD 25 (i := 2) (v := ?v2) rfl rfl (by kernel_rfl) (by kernel_rfl) (by kernel_rfl) (fun _ _ _ h => h) (by kernel_rfl) ?hy2 hS ?rest2
      case hy2 => (intro w0 hSw; obtain ⟨s0, s1⟩ := hSw; first | (go_simp; done) | (go_simp; with_reducible rfl))
      simp only [List.setIfInBounds_toArray, List.set_cons_zero, List.set_cons_succ]
      refine takeD 26 (i := 3) (v := ?v3) rfl rfl (by kernel_rfl) (by kernel_rfl) (by kernel_rfl) (fun _ _ _ h => h) (by kernel_rfl) ?hy3 hS ?rest3
      case hy3 => (intro w0 hSw; obtain ⟨s0, s1⟩ := hSw; first | (go_simp; done) | (go_simp; with_reducible rfl))
      simp only [List.setIfInBounds_toArray, List.set_cons_zero, List.set_cons_succ]
      refine takeD 27 (i := 4) (v := ?v4) rfl rfl (by kernel_rfl) (by kernel_rfl) (by kernel_rfl) (fun _ _ _ h => h) (by kernel_rfl) ?hy4 hS ?rest4
      case hy4 => (intro w0 hSw; obtain ⟨s0, s1⟩ := hSw; first | (go_simp; done) | (go_simp; with_reducible rfl))
      simp only [List.setIfInBounds_toArray, List.set_cons_zero, List.set_cons_succ]
      refine takeD 28 (i := 5) (v := ?v5) rfl rfl (by kernel_rfl) (by kernel_rfl) (by kernel_rfl) (fun _ _ _ h => h) (by kernel_rfl) ?hy5 hS ?rest5
      case hy5 => (intro w0 hSw; obtain ⟨s0, s1⟩ := hSw; first | (go_simp; done) | (go_simp; with_reducible rfl))
      simp only [List.setIfInBounds_toArray, List.set_cons_zero, List.set_cons_succ]
      refine takeD 29 (i := 6) (v := ?v6) rfl rfl (by kernel_rfl) (by kernel_rfl) (by kernel_rfl) (fun _ _ _ h => h) (by kernel_rfl) ?hy6 hS ?rest6
      case hy6 => (intro w0 hSw; obtain ⟨s0, s1⟩ := hSw; first | (go_simp; done) | (go_simp; with_reducible rfl))
      simp only [List.setIfInBounds_toArray, List.set_cons_zero, List.set_cons_succ]
      refine twoE 24 30 (i1 := 1) (i2 := 7) rfl rfl rfl rfl (by kernel_rfl) (by kernel_rfl) (by kernel_rfl) (fun K hK => ?_) (fun K hK => ?_)
      · simp only [List.setIfInBounds_toArray, List.set_cons_zero, List.set_cons_succ] at hK
        have c0 := HC0.out
        go_simp
        refine hK _ _ HS0.out (fun _ => ?_)
        clear hK K c0
        refine onlyE 30 (i := 7) rfl rfl (by kernel_rfl) (by kernel_rfl) (fun K hK => ?_)
        simp only [List.setIfInBounds_toArray, List.set_cons_zero, List.set_cons_succ] at hK
        go_simp
        go_at_call 17
        refine (pick_lit HY.out HX.out (by decide) _).mono ?_
        rintro e w7 ⟨rfl, rfl⟩
        refine hK _ _ HS0.out (fun _ => ?_)
        clear hK K
        refine onlyE 31 (i := 8) rfl rfl (by kernel_rfl) (by kernel_rfl) (fun K hK => ?_)
        simp only [List.setIfInBounds_toArray, List.set_cons_zero, List.set_cons_succ] at hK
        go_simp
        rw [HWA.out]
        refine hK _ WA HSA.out (fun _ => ?_)
        clear hK K
        refine onlyE 32 (i := 9) rfl rfl (by kernel_rfl) (by kernel_rfl) (fun K hK => ?_)
        simp only [List.setIfInBounds_toArray, List.set_cons_zero, List.set_cons_succ] at hK
        refine wp_app (.tmp 24) (.tmp 31) 22 rfl _ _ _ (by rfl) (by rfl) HRUN.out rfl ?_
        simp only [List.setIfInBounds_toArray, List.set_cons_zero, List.set_cons_succ]
        refine hK _ _ (HS2.out) (fun _ => ?_)
        clear hK K
        refine takeD 33 (i := 10) (v := ?v7) rfl rfl (by kernel_rfl) (by kernel_rfl) (by kernel_rfl) (fun _ _ _ h => h) (by kernel_rfl) ?hy7 HS2.out ?rest7
        case hy7 => (intro w0 hSw; obtain ⟨s0, s1⟩ := hSw; first | (go_simp; done) | (go_simp; with_reducible rfl))
        simp only [List.setIfInBounds_toArray, List.set_cons_zero, List.set_cons_succ]
        refine onlyN (i := 11) rfl rfl (by kernel_rfl) (by kernel_rfl) (fun K hK => ?_)
        have c3 := HC3.out
        have f3 := HF3.out
        go_simp
        refine hK undef _ (HS3.out) (fun _ => ?_)
        clear hK K c3 f3
        refine wpAnyH_done (by kernel_rfl) ?_ _
        go_wp2_with fail
        go_roundw
        case rel => exact ⟨k + 1, _, HLT.out, by go_num, ⟨p', c', rfl⟩, HN.out⟩
        case measure => simp [intOf]; have := HLT.out; omega
      · simp only [List.setIfInBounds_toArray, List.set_cons_zero, List.set_cons_succ] at hK
        go_simp
        go_at_call 17
        refine (pick_lit HY.out HX.out (by decide) _).mono ?_
        rintro e w7 ⟨rfl, rfl⟩
        refine hK _ _ HS0.out (fun _ => ?_)
        clear hK K
        refine twoE 24 31 (i1 := 1) (i2 := 8) rfl rfl rfl rfl (by kernel_rfl) (by kernel_rfl) (by kernel_rfl) (fun K hK => ?_) (fun K hK => ?_)
        · simp only [List.setIfInBounds_toArray, List.set_cons_zero, List.set_cons_succ] at hK
          have c0 := HC0.out
          go_simp
          refine hK _ _ HS0.out (fun _ => ?_)
          clear hK K c0
          refine onlyE 31 (i := 8) rfl rfl (by kernel_rfl) (by kernel_rfl) (fun K hK => ?_)
          simp only [List.setIfInBounds_toArray, List.set_cons_zero, List.set_cons_succ] at hK
          go_simp
          rw [HWA.out]
          refine hK _ WA HSA.out (fun _ => ?_)
          clear hK K
          refine onlyE 32 (i := 9) rfl rfl (by kernel_rfl) (by kernel_rfl) (fun K hK => ?_)
          simp only [List.setIfInBounds_toArray, List.set_cons_zero, List.set_cons_succ] at hK
          refine wp_app (.tmp 24) (.tmp 31) 22 rfl _ _ _ (by rfl) (by rfl) HRUN.out rfl ?_
          simp only [List.setIfInBounds_toArray, List.set_cons_zero, List.set_cons_succ]
          refine hK _ _ (HS2.out) (fun _ => ?_)
          clear hK K
          refine takeD 33 (i := 10) (v := ?v8) rfl rfl (by kernel_rfl) (by kernel_rfl) (by kernel_rfl) (fun _ _ _ h => h) (by kernel_rfl) ?hy8 HS2.out ?rest8
          case hy8 => (intro w0 hSw; obtain ⟨s0, s1⟩ := hSw; first | (go_simp; done) | (go_simp; with_reducible rfl))
          simp only [List.setIfInBounds_toArray, List.set_cons_zero, List.set_cons_succ]
          refine onlyN (i := 11) rfl rfl (by kernel_rfl) (by kernel_rfl) (fun K hK => ?_)
          have c3 := HC3.out
          have f3 := HF3.out
          go_simp
          refine hK undef _ (HS3.out) (fun _ => ?_)
          clear hK K c3 f3
          refine wpAnyH_done (by kernel_rfl) ?_ _
          go_wp2_with fail
          go_roundw
          case rel => exact ⟨k + 1, _, HLT.out, by go_num, ⟨p', c', rfl⟩, HN.out⟩
          case measure => simp [intOf]; have := HLT.out; omega
        · simp only [List.setIfInBounds_toArray, List.set_cons_zero, List.set_cons_succ] at hK
          go_simp
          rw [HWA.out]
          refine hK _ WA HSA.out (fun _ => ?_)
          clear hK K
          refine onlyE 24 (i := 1) rfl rfl (by kernel_rfl) (by kernel_rfl) (fun K hK => ?_)
          simp only [List.setIfInBounds_toArray, List.set_cons_zero, List.set_cons_succ] at hK
          have c0 := HC0A.out
          go_simp
          refine hK _ _ HSA.out (fun _ => ?_)
          clear hK K c0
          refine onlyE 32 (i := 9) rfl rfl (by kernel_rfl) (by kernel_rfl) (fun K hK => ?_)
          simp only [List.setIfInBounds_toArray, List.set_cons_zero, List.set_cons_succ] at hK
          refine wp_app (.tmp 24) (.tmp 31) 22 rfl _ _ _ (by rfl) (by rfl) HRUN.out rfl ?_
          simp only [List.setIfInBounds_toArray, List.set_cons_zero, List.set_cons_succ]
          refine hK _ _ (HS2.out) (fun _ => ?_)
          clear hK K
          refine takeD 33 (i := 10) (v := ?v9) rfl rfl (by kernel_rfl) (by kernel_rfl) (by kernel_rfl) (fun _ _ _ h => h) (by kernel_rfl) ?hy9 HS2.out ?rest9
          case hy9 => (intro w0 hSw; obtain ⟨s0, s1⟩ := hSw; first | (go_simp; done) | (go_simp; with_reducible rfl))
          simp only [List.setIfInBounds_toArray, List.set_cons_zero, List.set_cons_succ]
          refine onlyN (i := 11) rfl rfl (by kernel_rfl) (by kernel_rfl) (fun K hK => ?_)
          have c3 := HC3.out
          have f3 := HF3.out
          go_simp
          refine hK undef _ (HS3.out) (fun _ => ?_)
          clear hK K c3 f3
          refine wpAnyH_done (by kernel_rfl) ?_ _
          go_wp2_with fail
          go_roundw
          case rel => exact ⟨k + 1, _, HLT.out, by go_num, ⟨p', c', rfl⟩, HN.out⟩
          case measure => simp [intOf]; have := HLT.out; omega
    · obtain rfl : k = fitLen raw := by omega
      obtain ⟨n, hn⟩ : ∃ n, fitLen raw = n := ⟨_, rfl⟩
      rw [hn] at HA hfl hk hlt ⊢
      have HNL := Lib.hid hn
      have hn40 : (n : Int) ≤ 40 := by omega
      have hcase : ((n : Int) < (raw.words.length : Int) ∧ n = 40) ∨ ((n : Int) = (raw.words.length : Int)) := by
        unfold fitLen at hn
        omega
      clear hk hlt hn hfl
      rcases hcase with ⟨hc1, hc2⟩ | hc1
      · have hc3 : decide ((n : Int) < 40) = false := decide_eq_false (by omega)
        clear hc2
        go_wp2_with fail
        have hn1 := heap_alloc_new wr (.cells nameCells 9)
        have hnb := (Bel.refl wr).alloc nameCells 9
        show Code.wp _ _ _ _ (wr.alloc (.cells nameCells 9))
        generalize wr.alloc (.cells nameCells 9) = Wn at hn1 hnb ⊢
        generalize wr.heap.size = bn at hn1 ⊢
        have HFn := Lib.hid (HA.out.1.bel' hnb)
        have HRn := Lib.hid (hnb.stays HA.out.2)
        have HNn := Lib.hid hn1
        clear hn1 hnb HA q0
        go_loopw [6] (fun i wr => ∃ (j : Nat) (pS : Option Addr) (cS : Nat), j ≤ 8 ∧ i = .int .i64 j ∧ Hid (FitSt w bx (bx + 1 + 1) #[.slice wp raw.words.length wc, .int .i64 raw.mem, .slice sp raw.syms.length sc] pm (.slice pW n cW) (fitWords raw n) (.slice pS (fitSyms raw n j).length cS) (fitSyms raw n j) wr ∧ wr.heap[bx + 1]? = some (.cells #[.slice none 0 0, .int .i64 0, .slice none 0 0] 25 (0, 0)) ∧ wr.heap[bn]? = some (.cells nameCells 9 (0, 0)))) (fun i _ => 8 - (intOf i).toNat)
        case atStart => exact ⟨0, none, 0, by omega, rfl, HFn.out, HRn.out, HNn.out⟩
        case round =>
          obtain ⟨j, pS, cS, hj, rfl, HB⟩ := hrel
          obtain ⟨wq, rfl⟩ : ∃ W, W = wr := ⟨_, rfl⟩
          by_cases hj8 : j < 8
          · have hj8' : (j : Int) < 8 := by omega
            have HJ8 : Hid (j + 1 ≤ 8) := Lib.hid hj8
            clear hj hj8
            go_wp2_with fail
            go_loopw [7] (fun i wr => ∃ k : Nat, k ≤ raw.syms.length ∧ i = .int .i64 k ∧ Hid ((FitSt w bx (bx + 1 + 1) #[.slice wp raw.words.length wc, .int .i64 raw.mem, .slice sp raw.syms.length sc] pm (.slice pW n cW) (fitWords raw n) (.slice pS (fitSyms raw n j).length cS) (fitSyms raw n j) wr ∧ wr.heap[bx + 1]? = some (.cells #[.slice none 0 0, .int .i64 0, .slice none 0 0] 25 (0, 0)) ∧ wr.heap[bn]? = some (.cells nameCells 9 (0, 0))) ∧ ∀ (t : Nat) (y : Sym), t < k → raw.syms[t]? = some y → ¬ keyOf y = (j : Int))) (fun i _ => raw.syms.length - (intOf i).toNat)
            case atStart => exact ⟨0, Nat.zero_le _, rfl, HB.out, fun t y ht => by omega⟩
            case round =>
              obtain ⟨k, hk, rfl, HC⟩ := hrel
              have q2 : wr.cell? ⟨bx, 2, none⟩ = some (.slice sp raw.syms.length sc) := cell_of_heap HC.out.1.1.hbx 2
              by_cases hkl : k < raw.syms.length
              · obtain ⟨⟨xs, xp⟩, hx⟩ : ∃ x, raw.syms[k]? = some x := ⟨_, List.getElem?_eq_getElem hkl⟩
                obtain ⟨b, o, hsp, hbl, e1, e2⟩ := SymsQ.get (H.out.syms.bel HC.out.1.1.bel) hx
                obtain ⟨b', o', hsp', hbw, _, _⟩ := SymsQ.get H.out.syms hx
                obtain ⟨rfl, rfl⟩ : b = b' ∧ o = o' := by rw [hsp] at hsp'; simpa using hsp'
                subst hsp
                simp only at e1 e2
                have HXX := Lib.hid hx
                have hkl' : (k : Int) < (raw.syms.length : Int) := by omega
                obtain ⟨kv, hkv⟩ : ∃ v, pick (IntKind.i64.wrap ((xs.size : Int) + xp)) 8 = v := ⟨_, rfl⟩
                have HKV := Lib.hid hkv
                have HIN : Hid (inInt (IntKind.i64.wrap ((xs.size : Int) + xp))) := Lib.hid (by
                  have := IntKind.wrap_i64 ((xs.size : Int) + xp)
                  rw [this]
                  unfold inInt
                  omega)
                have HLT : Hid (k + 1 ≤ raw.syms.length) := Lib.hid hkl
                clear hx hkv hsp' hkl hbl
                go_wp2_with fail
                go_quiet ((go_at_call 17; with_reducible refine Calls.quiet_of_same (pick_same HKV.out HIN.out (by decide) _)))
                have hbq := (Bel.refl wr).drewN nq
                have hst := HC.out.1.1.bel' hbq
                have hre := hbq.stays HC.out.1.2.1
                have hna := hbq.stays HC.out.1.2.2
                have e3 : (wr.drewN nq).cell? ⟨b, o + k * 2 + 1, none⟩ = some (.int .i64 xp) := e2
                generalize wr.drewN nq = Wq at hbq hst hre hna e3 ⊢
                clear hbq e1 e2 q2
                by_cases hkj : kv = (j : Int)
                · have v1 : (kv == (j : Int)) = true := by simp [hkj]
                  obtain ⟨nm, hnm⟩ : ∃ s, names.getD j ⟨#[]⟩ = s := ⟨_, rfl⟩
                  obtain ⟨pv, hpv⟩ : ∃ v, pick xp ((n : Int) + 1) = v := ⟨_, rfl⟩
                  obtain ⟨hp1, hp2⟩ := pick_bd xp (n := (n : Int) + 1) (by omega)
                  rw [hpv] at hp1 hp2
                  have hsu : fitSyms raw n (j + 1) = fitSyms raw n j ++ [⟨nm, 4 * pv⟩] := by
                    rw [fitSyms_succ, symFor_yes HXX.out (show keyOf ⟨xs, xp⟩ = (j : Int) from HKV.out.trans hkj) HC.out.2, hnm, hpv]
                  have HXP : Hid (inInt xp) := Lib.hid (H.out.wfs _ (List.mem_of_getElem? HXX.out)).2
                  have hFd := hst.bel' ((Bel.refl Wq).drew)
                  have hRd : Wq.drew.heap[bx + 1]? = some (.cells #[.slice none 0 0, .int .i64 0, .slice none 0 0] 25 (0, 0)) := hre
                  have hNd : Wq.drew.heap[bn]? = some (.cells nameCells 9 (0, 0)) := hna
                  obtain ⟨v', W2, hrun, hc3, hf3, ⟨p', c', hv'⟩, hall, hF2⟩ := hFd.sym nm (4 * pv) (by have := fitSyms_len raw n j; have := HJ8.out; omega)
                  have hlen1 : (fitSyms raw n j).length + 1 = (fitSyms raw n (j + 1)).length := by rw [hsu, List.length_append]; rfl
                  rw [hlen1] at hv'
                  rw [← hsu] at hF2
                  subst hv'
                  have hbk : ∃ cs t fr, Wq.drew.heap[b]? = some (.cells cs t fr) := by
                    have hc : Wq.drew.cell? ⟨b, o + k * 2 + 1, none⟩ = some (.int .i64 xp) := e3
                    unfold World.cell? at hc
                    split at hc
                    · rename_i cs t fr hh
                      exact ⟨cs, t, fr, hh⟩
                    · cases hc
                  obtain ⟨bcs, bt, bfr, hbk⟩ := hbk
                  have e3' : bcs[o + k * 2 + 1]? = some (.int .i64 xp) := by rw [← cell_of_heap hbk]; exact e3
                  have hnj : nameCells[j]? = some (.string nm) := by rw [nameCells_get j HJ8.out, hnm]
                  have hS : ∀ W : World, W.heap[bx]? = some (.cells #[.slice wp raw.words.length wc, .int .i64 raw.mem, .slice (some ⟨b, o, none⟩) raw.syms.length sc] 25 (0, 0)) → W.heap[b]? = some (.cells bcs bt bfr) → (∃ z, W.heap[bx + 1 + 1]? = some (.cells #[.slice pW n cW, .int .i64 pm, z] 25 (0, 0))) → W.heap[bn]? = some (.cells nameCells 9 (0, 0)) → S14 bx (bx + 1 + 1) bn b o raw.syms.length sc k j n cW pW xp nm W := by
                    rintro W h1 h2 ⟨z, h3⟩ h4
                    exact ⟨cell_of_heap h1 2, by rw [cell_of_heap h2]; exact e3', cell_of_heap h3 0, by rw [cell_of_heap h4]; exact hnj⟩
                  have hS0 := hS Wq.drew hFd.hbx hbk ⟨_, hFd.hb3⟩ hNd
                  have hbA := (Bel.refl Wq.drew).alloc #[.string nm, .int .i64 (4 * pv)] 42
                  have hSA := hS (Wq.drew.alloc (.cells #[.string nm, .int .i64 (4 * pv)] 42)) (hbA.stays hFd.hbx) (hbA.stays hbk) ⟨_, hbA.stays hFd.hb3⟩ (hbA.stays hNd)
                  have h2b := hall _ _ _ _ hFd.hb3 (.inl (by decide))
                  have h2n := hall _ _ _ _ hNd (.inl (by decide))
                  have h2k := hall _ _ _ _ hbk (.inr hbw)
                  have h2x := hall _ _ _ _ hFd.hbx (.inl (by decide))
                  have h2r := hall _ _ _ _ hRd (.inl (by decide))
                  have hS2 := hS W2 h2x h2k ⟨_, h2b⟩ h2n
                  have hnb3 : bn ≠ bx + 1 + 1 := ne_types h2n h2b (by decide)
                  have hkb3 : b ≠ bx + 1 + 1 := by have := HBX.out; omega
                  have h3n : (W2.setCell ⟨bx + 1 + 1, 2, none⟩ (.slice p' (fitSyms raw n (j + 1)).length c')).heap[bn]? = some (.cells nameCells 9 (0, 0)) := by rw [heap_setCell_other _ _ _ _ hnb3]; exact h2n
                  have hS3 := hS (W2.setCell ⟨bx + 1 + 1, 2, none⟩ (.slice p' (fitSyms raw n (j + 1)).length c')) hF2.hbx (by rw [heap_setCell_other _ _ _ _ hkb3]; exact h2k) ⟨_, hF2.hb3⟩ h3n
                  have HN : Hid (FitSt w bx (bx + 1 + 1) #[.slice wp raw.words.length wc, .int .i64 raw.mem, .slice (some ⟨b, o, none⟩) raw.syms.length sc] pm (.slice pW n cW) (fitWords raw n) (.slice p' (fitSyms raw n (j + 1)).length c') (fitSyms raw n (j + 1)) (W2.setCell ⟨bx + 1 + 1, 2, none⟩ (.slice p' (fitSyms raw n (j + 1)).length c')) ∧ (W2.setCell ⟨bx + 1 + 1, 2, none⟩ (.slice p' (fitSyms raw n (j + 1)).length c')).heap[bx + 1]? = some (.cells #[.slice none 0 0, .int .i64 0, .slice none 0 0] 25 (0, 0)) ∧ (W2.setCell ⟨bx + 1 + 1, 2, none⟩ (.slice p' (fitSyms raw n (j + 1)).length c')).heap[bn]? = some (.cells nameCells 9 (0, 0))) := Lib.hid ⟨hF2, by rw [heap_setCell_other _ _ _ _ (show bx + 1 ≠ bx + 1 + 1 by omega)]; exact h2r, h3n⟩
                  have hc0 : Wq.drew.cell? ⟨bx + 1 + 1, 2, none⟩ = some (.slice pS (fitSyms raw n j).length cS) := cell_of_heap hFd.hb3 2
                  have hc0A : (Wq.drew.alloc (.cells #[.string nm, .int .i64 (4 * pv)] 42)).cell? ⟨bx + 1 + 1, 2, none⟩ = some (.slice pS (fitSyms raw n j).length cS) := cell_of_heap (hbA.stays hFd.hb3) 2
                  obtain ⟨WA, hWA⟩ : ∃ W, Wq.drew.alloc (.cells #[.string nm, .int .i64 (4 * pv)] 42) = W := ⟨_, rfl⟩
                  have HWA : Hid ((Wq.alloc (.cells #[.string nm, .int .i64 (4 * pv)] 42)).drew = WA) := Lib.hid hWA
                  rw [hWA] at hrun hSA hc0A
                  have HC0A := Lib.hid hc0A
                  have HRUN := Lib.hid hrun
                  have HC3 := Lib.hid hc3
                  have HF3 := Lib.hid hf3
                  have HC0 := Lib.hid hc0
                  have HS0 := Lib.hid hS0
                  have HSA := Lib.hid hSA
                  have HS2 := Lib.hid hS2
                  have HS3 := Lib.hid hS3
                  have HPV := Lib.hid hpv
                  clear hst hre hna e3 hkj hnm hpv hsu hFd hRd hNd hrun hc3 hf3 hall hF2 hlen1 hbk e3' hnj hS hS0 hbA hSA h2b h2n h2k h2x h2r hS2 hnb3 hkb3 h3n hS3 hc0 hc0A hWA hbw
                  clear bcs bt bfr
                  go_wp2_with fail
                  simp only [v1]
                  clear v1
                  have HN1 : Hid ((1 : Int) ≤ (n : Int) + 1) := Lib.hid (by omega)
                  have vn1 : IntKind.i64.wrap ((n : Int) + 1) = (n : Int) + 1 := IntWalk.i64_in _ (by constructor <;> omega)
                  have vm4 : IntKind.i64.wrap (4 * pv) = 4 * pv := IntWalk.i64_in _ (by constructor <;> omega)
                  refine wp_region_held_drew (S := S14 bx (bx + 1 + 1) bn b o raw.syms.length sc k j n cW pW xp nm) (by kernel_rfl) (HS0.out) (fun hS => ?_)
                  refine takeD 63 (i := 0) (v := ?v10) rfl rfl (by kernel_rfl) (by kernel_rfl) (by kernel_rfl) (fun _ _ _ h => h) (by kernel_rfl) ?hy10 hS ?rest10
                  case hy10 => (intro w0 hSw; obtain ⟨s0, s1, s2, s3⟩ := hSw; first | (go_simp; done) | (go_simp; with_reducible rfl))
                  simp only [List.setIfInBounds_toArray, List.set_cons_zero, List.set_cons_succ]
                  refine takeD 65 (i := 2) (v := ?v11) rfl rfl (by kernel_rfl) (by kernel_rfl) (by kernel_rfl) (fun _ _ _ h => h) (by kernel_rfl) ?hy11 hS ?rest11
                  case hy11 => (intro w0 hSw; obtain ⟨s0, s1, s2, s3⟩ := hSw; first | (go_simp; done) | (go_simp; with_reducible rfl))
                  simp only [List.setIfInBounds_toArray, List.set_cons_zero, List.set_cons_succ]
                  refine takeD 66 (i := 3) (v := ?v12) rfl rfl (by kernel_rfl) (by kernel_rfl) (by kernel_rfl) (fun _ _ _ h => h) (by kernel_rfl) ?hy12 hS ?rest12
                  case hy12 => (intro w0 hSw; obtain ⟨s0, s1, s2, s3⟩ := hSw; first | (go_simp; done) | (go_simp; with_reducible rfl))
                  simp only [List.setIfInBounds_toArray, List.set_cons_zero, List.set_cons_succ]
                  refine takeD 67 (i := 4) (v := ?v13) rfl rfl (by kernel_rfl) (by kernel_rfl) (by kernel_rfl) (fun _ _ _ h => h) (by kernel_rfl) ?hy13 hS ?rest13
                  case hy13 => (intro w0 hSw; obtain ⟨s0, s1, s2, s3⟩ := hSw; first | (go_simp; done) | (go_simp; with_reducible rfl))
                  simp only [List.setIfInBounds_toArray, List.set_cons_zero, List.set_cons_succ]
                  refine takeD 68 (i := 5) (v := ?v14) rfl rfl (by kernel_rfl) (by kernel_rfl) (by kernel_rfl) (fun _ _ _ h => h) (by kernel_rfl) ?hy14 hS ?rest14
                  case hy14 => (intro w0 hSw; obtain ⟨s0, s1, s2, s3⟩ := hSw; first | (go_simp; done) | (go_simp; with_reducible rfl))
                  simp only [List.setIfInBounds_toArray, List.set_cons_zero, List.set_cons_succ]
                  refine takeD 69 (i := 6) (v := ?v15) rfl rfl (by kernel_rfl) (by kernel_rfl) (by kernel_rfl) (fun _ _ _ h => h) (by kernel_rfl) ?hy15 hS ?rest15
                  case hy15 => (intro w0 hSw; obtain ⟨s0, s1, s2, s3⟩ := hSw; first | (go_simp; done) | (go_simp; with_reducible rfl))
                  simp only [List.setIfInBounds_toArray, List.set_cons_zero, List.set_cons_succ]
                  refine takeD 70 (i := 7) (v := ?v16) rfl rfl (by kernel_rfl) (by kernel_rfl) (by kernel_rfl) (fun _ _ _ h => h) (by kernel_rfl) ?hy16 hS ?rest16
                  case hy16 => (intro w0 hSw; obtain ⟨s0, s1, s2, s3⟩ := hSw; first | (go_simp; done) | (go_simp; with_reducible rfl))
                  simp only [List.setIfInBounds_toArray, List.set_cons_zero, List.set_cons_succ]
                  refine takeD 71 (i := 8) (v := ?v17) rfl rfl (by kernel_rfl) (by kernel_rfl) (by kernel_rfl) (fun _ _ _ h => h) (by kernel_rfl) ?hy17 hS ?rest17
                  case hy17 => (intro w0 hSw; obtain ⟨s0, s1, s2, s3⟩ := hSw; first | (go_simp; done) | (go_simp; with_reducible rfl))
                  simp only [List.setIfInBounds_toArray, List.set_cons_zero, List.set_cons_succ]
                  refine takeD 72 (i := 9) (v := ?v18) rfl rfl (by kernel_rfl) (by kernel_rfl) (by kernel_rfl) (fun _ _ _ h => h) (by kernel_rfl) ?hy18 hS ?rest18
                  case hy18 => (intro w0 hSw; obtain ⟨s0, s1, s2, s3⟩ := hSw; first | (go_simp; done) | (go_simp; with_reducible rfl))
                  simp only [List.setIfInBounds_toArray, List.set_cons_zero, List.set_cons_succ]
                  refine takeD 73 (i := 10) (v := ?v19) rfl rfl (by kernel_rfl) (by kernel_rfl) (by kernel_rfl) (fun _ _ _ h => h) (by kernel_rfl) ?hy19 hS ?rest19
                  case hy19 => (intro w0 hSw; obtain ⟨s0, s1, s2, s3⟩ := hSw; first | (go_simp; done) | (go_simp; with_reducible rfl))
                  simp only [List.setIfInBounds_toArray, List.set_cons_zero, List.set_cons_succ]
                  refine takeD 74 (i := 11) (v := ?v20) rfl rfl (by kernel_rfl) (by kernel_rfl) (by kernel_rfl) (fun _ _ _ h => h) (by kernel_rfl) ?hy20 hS ?rest20
                  case hy20 => (intro w0 hSw; obtain ⟨s0, s1, s2, s3⟩ := hSw; first | (go_simp; done) | (go_simp; with_reducible rfl))
                  simp only [List.setIfInBounds_toArray, List.set_cons_zero, List.set_cons_succ]
                  refine takeD 75 (i := 12) (v := ?v21) rfl rfl (by kernel_rfl) (by kernel_rfl) (by kernel_rfl) (fun _ _ _ h => h) (by kernel_rfl) ?hy21 hS ?rest21
                  case hy21 => (intro w0 hSw; obtain ⟨s0, s1, s2, s3⟩ := hSw; first | (go_simp; done) | (go_simp; with_reducible rfl))
                  simp only [List.setIfInBounds_toArray, List.set_cons_zero, List.set_cons_succ]
                  refine takeD 76 (i := 13) (v := ?v22) rfl rfl (by kernel_rfl) (by kernel_rfl) (by kernel_rfl) (fun _ _ _ h => h) (by kernel_rfl) ?hy22 hS ?rest22
                  case hy22 => (intro w0 hSw; obtain ⟨s0, s1, s2, s3⟩ := hSw; first | (go_simp; done) | (go_simp; with_reducible rfl))
                  simp only [List.setIfInBounds_toArray, List.set_cons_zero, List.set_cons_succ]
                  refine takeD 77 (i := 14) (v := ?v23) rfl rfl (by kernel_rfl) (by kernel_rfl) (by kernel_rfl) (fun _ _ _ h => h) (by kernel_rfl) ?hy23 hS ?rest23
                  case hy23 => (intro w0 hSw; obtain ⟨s0, s1, s2, s3⟩ := hSw; first | (go_simp; done) | (go_simp; with_reducible rfl))
                  simp only [List.setIfInBounds_toArray, List.set_cons_zero, List.set_cons_succ]
                  refine takeD 78 (i := 15) (v := ?v24) rfl rfl (by kernel_rfl) (by kernel_rfl) (by kernel_rfl) (fun _ _ _ h => h) (by kernel_rfl) ?hy24 hS ?rest24
                  case hy24 => (intro w0 hSw; obtain ⟨s0, s1, s2, s3⟩ := hSw; first | (go_simp; done) | (go_simp; with_reducible rfl))
                  simp only [List.setIfInBounds_toArray, List.set_cons_zero, List.set_cons_succ]
                  refine twoE 64 79 (i1 := 1) (i2 := 16) rfl rfl rfl rfl (by kernel_rfl) (by kernel_rfl) (by kernel_rfl) (fun K hK => ?_) (fun K hK => ?_)
                  · simp only [List.setIfInBounds_toArray, List.set_cons_zero, List.set_cons_succ] at hK
                    have c0 := HC0.out
                    go_simp
                    refine hK _ _ HS0.out (fun _ => ?_)
                    clear hK K c0
                    refine onlyE 79 (i := 16) rfl rfl (by kernel_rfl) (by kernel_rfl) (fun K hK => ?_)
                    simp only [List.setIfInBounds_toArray, List.set_cons_zero, List.set_cons_succ] at hK
                    go_simp
                    go_at_call 17
                    with_reducible refine (pick_lit HPV.out HXP.out HN1.out _).mono ?_
                    rintro e w7 ⟨rfl, rfl⟩
                    refine hK _ _ HS0.out (fun _ => ?_)
                    clear hK K
                    refine takeD 80 (i := 17) (v := ?v25) rfl rfl (by kernel_rfl) (by kernel_rfl) (by kernel_rfl) (fun _ _ _ h => h) (by kernel_rfl) ?hy25 HS0.out ?rest25
                    case hy25 => (intro w0 hSw; obtain ⟨s0, s1, s2, s3⟩ := hSw; first | (go_simp; done) | (go_simp; with_reducible rfl))
                    simp only [List.setIfInBounds_toArray, List.set_cons_zero, List.set_cons_succ]
                    refine takeD 81 (i := 18) (v := ?v26) rfl rfl (by kernel_rfl) (by kernel_rfl) (by kernel_rfl) (fun _ _ _ h => h) (by kernel_rfl) ?hy26 HS0.out ?rest26
                    case hy26 => (intro w0 hSw; obtain ⟨s0, s1, s2, s3⟩ := hSw; first | (go_simp; done) | (go_simp; with_reducible rfl))
                    simp only [List.setIfInBounds_toArray, List.set_cons_zero, List.set_cons_succ]
                    refine onlyE 82 (i := 19) rfl rfl (by kernel_rfl) (by kernel_rfl) (fun K hK => ?_)
                    simp only [List.setIfInBounds_toArray, List.set_cons_zero, List.set_cons_succ] at hK
                    go_simp
                    rw [HWA.out]
                    refine hK _ WA HSA.out (fun _ => ?_)
                    clear hK K
                    refine onlyE 83 (i := 20) rfl rfl (by kernel_rfl) (by kernel_rfl) (fun K hK => ?_)
                    simp only [List.setIfInBounds_toArray, List.set_cons_zero, List.set_cons_succ] at hK
                    refine wp_app (.tmp 64) (.tmp 82) 23 rfl _ _ _ (by rfl) (by rfl) HRUN.out rfl ?_
                    simp only [List.setIfInBounds_toArray, List.set_cons_zero, List.set_cons_succ]
                    refine hK _ _ (HS2.out) (fun _ => ?_)
                    clear hK K
                    refine takeD 84 (i := 21) (v := ?v27) rfl rfl (by kernel_rfl) (by kernel_rfl) (by kernel_rfl) (fun _ _ _ h => h) (by kernel_rfl) ?hy27 HS2.out ?rest27
                    case hy27 => (intro w0 hSw; obtain ⟨s0, s1, s2, s3⟩ := hSw; first | (go_simp; done) | (go_simp; with_reducible rfl))
                    simp only [List.setIfInBounds_toArray, List.set_cons_zero, List.set_cons_succ]
                    refine onlyN (i := 22) rfl rfl (by kernel_rfl) (by kernel_rfl) (fun K hK => ?_)
                    have c3 := HC3.out
                    have f3 := HF3.out
                    go_simp
                    refine hK undef _ (HS3.out) (fun _ => ?_)
                    clear hK K c3 f3
                    refine wpAnyH_done (by kernel_rfl) ?_ _
                    clear hn40 hp1 hp2 vn1 vm4
                    go_wp2_with fail
                    go_roundw
                    case rel => exact ⟨j + 1, p', c', HJ8.out, by go_num, HN.out⟩
                    case measure => simp [intOf]; have := HJ8.out; omega
                  · simp only [List.setIfInBounds_toArray, List.set_cons_zero, List.set_cons_succ] at hK
                    go_simp
                    go_at_call 17
                    with_reducible refine (pick_lit HPV.out HXP.out HN1.out _).mono ?_
                    rintro e w7 ⟨rfl, rfl⟩
                    refine hK _ _ HS0.out (fun _ => ?_)
                    clear hK K
                    refine takeD 80 (i := 17) (v := ?v28) rfl rfl (by kernel_rfl) (by kernel_rfl) (by kernel_rfl) (fun _ _ _ h => h) (by kernel_rfl) ?hy28 HS0.out ?rest28
                    case hy28 => (intro w0 hSw; obtain ⟨s0, s1, s2, s3⟩ := hSw; first | (go_simp; done) | (go_simp; with_reducible rfl))
                    simp only [List.setIfInBounds_toArray, List.set_cons_zero, List.set_cons_succ]
                    refine takeD 81 (i := 18) (v := ?v29) rfl rfl (by kernel_rfl) (by kernel_rfl) (by kernel_rfl) (fun _ _ _ h => h) (by kernel_rfl) ?hy29 HS0.out ?rest29
                    case hy29 => (intro w0 hSw; obtain ⟨s0, s1, s2, s3⟩ := hSw; first | (go_simp; done) | (go_simp; with_reducible rfl))
                    simp only [List.setIfInBounds_toArray, List.set_cons_zero, List.set_cons_succ]
                    refine twoE 64 82 (i1 := 1) (i2 := 19) rfl rfl rfl rfl (by kernel_rfl) (by kernel_rfl) (by kernel_rfl) (fun K hK => ?_) (fun K hK => ?_)
                    · simp only [List.setIfInBounds_toArray, List.set_cons_zero, List.set_cons_succ] at hK
                      have c0 := HC0.out
                      go_simp
                      refine hK _ _ HS0.out (fun _ => ?_)
                      clear hK K c0
                      refine onlyE 82 (i := 19) rfl rfl (by kernel_rfl) (by kernel_rfl) (fun K hK => ?_)
                      simp only [List.setIfInBounds_toArray, List.set_cons_zero, List.set_cons_succ] at hK
                      go_simp
                      rw [HWA.out]
                      refine hK _ WA HSA.out (fun _ => ?_)
                      clear hK K
                      refine onlyE 83 (i := 20) rfl rfl (by kernel_rfl) (by kernel_rfl) (fun K hK => ?_)
                      simp only [List.setIfInBounds_toArray, List.set_cons_zero, List.set_cons_succ] at hK
                      refine wp_app (.tmp 64) (.tmp 82) 23 rfl _ _ _ (by rfl) (by rfl) HRUN.out rfl ?_
                      simp only [List.setIfInBounds_toArray, List.set_cons_zero, List.set_cons_succ]
                      refine hK _ _ (HS2.out) (fun _ => ?_)
                      clear hK K
                      refine takeD 84 (i := 21) (v := ?v30) rfl rfl (by kernel_rfl) (by kernel_rfl) (by kernel_rfl) (fun _ _ _ h => h) (by kernel_rfl) ?hy30 HS2.out ?rest30
                      case hy30 => (intro w0 hSw; obtain ⟨s0, s1, s2, s3⟩ := hSw; first | (go_simp; done) | (go_simp; with_reducible rfl))
                      simp only [List.setIfInBounds_toArray, List.set_cons_zero, List.set_cons_succ]
                      refine onlyN (i := 22) rfl rfl (by kernel_rfl) (by kernel_rfl) (fun K hK => ?_)
                      have c3 := HC3.out
                      have f3 := HF3.out
                      go_simp
                      refine hK undef _ (HS3.out) (fun _ => ?_)
                      clear hK K c3 f3
                      refine wpAnyH_done (by kernel_rfl) ?_ _
                      clear hn40 hp1 hp2 vn1 vm4
                      go_wp2_with fail
                      go_roundw
                      case rel => exact ⟨j + 1, p', c', HJ8.out, by go_num, HN.out⟩
                      case measure => simp [intOf]; have := HJ8.out; omega
                    · simp only [List.setIfInBounds_toArray, List.set_cons_zero, List.set_cons_succ] at hK
                      go_simp
                      rw [HWA.out]
                      refine hK _ WA HSA.out (fun _ => ?_)
                      clear hK K
                      refine onlyE 64 (i := 1) rfl rfl (by kernel_rfl) (by kernel_rfl) (fun K hK => ?_)
                      simp only [List.setIfInBounds_toArray, List.set_cons_zero, List.set_cons_succ] at hK
                      have c0 := HC0A.out
                      go_simp
                      refine hK _ _ HSA.out (fun _ => ?_)
                      clear hK K c0
                      refine onlyE 83 (i := 20) rfl rfl (by kernel_rfl) (by kernel_rfl) (fun K hK => ?_)
                      simp only [List.setIfInBounds_toArray, List.set_cons_zero, List.set_cons_succ] at hK
                      refine wp_app (.tmp 64) (.tmp 82) 23 rfl _ _ _ (by rfl) (by rfl) HRUN.out rfl ?_
                      simp only [List.setIfInBounds_toArray, List.set_cons_zero, List.set_cons_succ]
                      refine hK _ _ (HS2.out) (fun _ => ?_)
                      clear hK K
                      refine takeD 84 (i := 21) (v := ?v31) rfl rfl (by kernel_rfl) (by kernel_rfl) (by kernel_rfl) (fun _ _ _ h => h) (by kernel_rfl) ?hy31 HS2.out ?rest31
                      case hy31 => (intro w0 hSw; obtain ⟨s0, s1, s2, s3⟩ := hSw; first | (go_simp; done) | (go_simp; with_reducible rfl))
                      simp only [List.setIfInBounds_toArray, List.set_cons_zero, List.set_cons_succ]
                      refine onlyN (i := 22) rfl rfl (by kernel_rfl) (by kernel_rfl) (fun K hK => ?_)
                      have c3 := HC3.out
                      have f3 := HF3.out
                      go_simp
                      refine hK undef _ (HS3.out) (fun _ => ?_)
                      clear hK K c3 f3
                      refine wpAnyH_done (by kernel_rfl) ?_ _
                      clear hn40 hp1 hp2 vn1 vm4
                      go_wp2_with fail
                      go_roundw
                      case rel => exact ⟨j + 1, p', c', HJ8.out, by go_num, HN.out⟩
                      case measure => simp [intOf]; have := HJ8.out; omega
                · have v1 : (kv == (j : Int)) = false := by simp [hkj]
                  have HN2 : Hid ((FitSt w bx (bx + 1 + 1) #[.slice wp raw.words.length wc, .int .i64 raw.mem, .slice (some ⟨b, o, none⟩) raw.syms.length sc] pm (.slice pW n cW) (fitWords raw n) (.slice pS (fitSyms raw n j).length cS) (fitSyms raw n j) Wq ∧ Wq.heap[bx + 1]? = some (.cells #[.slice none 0 0, .int .i64 0, .slice none 0 0] 25 (0, 0)) ∧ Wq.heap[bn]? = some (.cells nameCells 9 (0, 0))) ∧ ∀ (t : Nat) (y : Sym), t < k + 1 → raw.syms[t]? = some y → ¬ keyOf y = (j : Int)) := Lib.hid ⟨⟨hst, hre, hna⟩, fun t y ht hy => by
                    by_cases e : t = k
                    · rw [e, HXX.out] at hy
                      obtain rfl := Option.some.inj hy
                      exact fun c => hkj (HKV.out.symm.trans c)
                    · exact HC.out.2 t y (by omega) hy⟩
                  clear hst hre hna e3 hkj hbw
                  go_wp2_with fail
                  go_roundw
                  case rel => exact ⟨k + 1, HLT.out, by go_num, HN2.out⟩
                  case measure => simp [intOf]; have := HLT.out; omega
              · obtain rfl : k = raw.syms.length := by omega
                have hsu : fitSyms raw n (j + 1) = fitSyms raw n j := by
                  rw [fitSyms_succ, symFor_no HC.out.2, List.append_nil]
                have HN3 : Hid (FitSt w bx (bx + 1 + 1) #[.slice wp raw.words.length wc, .int .i64 raw.mem, .slice sp raw.syms.length sc] pm (.slice pW n cW) (fitWords raw n) (.slice pS (fitSyms raw n (j + 1)).length cS) (fitSyms raw n (j + 1)) wr ∧ wr.heap[bx + 1]? = some (.cells #[.slice none 0 0, .int .i64 0, .slice none 0 0] 25 (0, 0)) ∧ wr.heap[bn]? = some (.cells nameCells 9 (0, 0))) := Lib.hid (by rw [hsu]; exact HC.out.1)
                clear hsu hkl hk
                go_wp2_with fail
                go_roundw
                case rel => exact ⟨j + 1, pS, cS, HJ8.out, by go_num, HN3.out⟩
                case measure => simp [intOf]; have := HJ8.out; omega
          · obtain rfl : j = 8 := by omega
            clear hj hj8
            have hb3 := HB.out.1.hb3
            have hb2 := HB.out.2.1
            have c0 : wq.cell? ⟨bx + 1 + 1, 0, none⟩ = some (.slice pW n cW) := cell_of_heap hb3 0
            have c1 : wq.cell? ⟨bx + 1 + 1, 1, none⟩ = some (.int .i64 pm) := cell_of_heap hb3 1
            have c2 : wq.cell? ⟨bx + 1 + 1, 2, none⟩ = some (.slice pS (fitSyms raw n 8).length cS) := cell_of_heap hb3 2
            have d0 : wq.cell? ⟨bx + 1, 0, none⟩ = some (.slice none 0 0) := cell_of_heap hb2 0
            have d1 : wq.cell? ⟨bx + 1, 1, none⟩ = some (.int .i64 0) := cell_of_heap hb2 1
            have d2 : wq.cell? ⟨bx + 1, 2, none⟩ = some (.slice none 0 0) := cell_of_heap hb2 2
            have g0 := frozen_of_heap hb2 0
            have g1 := frozen_of_heap hb2 1
            have g2 := frozen_of_heap hb2 2
            have hex : pW = pW ∧ True := ⟨rfl, trivial⟩
            have HPF : Hid (FitOwn raw w (.returned (.agg #[.slice pW n cW, .int .i64 pm, .slice pS (fitSyms raw n 8).length cS])) (((wq.setCell ⟨bx + 1, 0, none⟩ (.slice pW n cW)).setCell ⟨bx + 1, 1, none⟩ (.int .i64 pm)).setCell ⟨bx + 1, 2, none⟩ (.slice pS (fitSyms raw n 8).length cS))) := by
              obtain ⟨hi1, hn1⟩ := erow_at (enc := icell) (k := 1) (fun _ => rfl) HB.out.1.ws
              obtain ⟨hi2, hn2⟩ := erow_at (enc := scell) (k := 2) (fun _ => rfl) HB.out.1.ss
              have hnw := hn1 hb2 (by decide)
              have hns := hn2 hb2 (by decide)
              have hfv : fitV raw = ⟨fitWords raw n, pm, fitSyms raw n 8⟩ := by unfold fitV; rw [HNL.out, HPM.out]
              have hlw : (fitWords raw n).length = n := by rw [← HNL.out]; exact fitWords_len raw
              have hbd := fit_bounds raw
              have hrt := right_parts (fit_right raw)
              have hI : ImgAt wq pW pS (fitV raw) := by
                refine ⟨by rw [hfv]; exact hi1, by rw [hfv]; exact hi2, hbd.1, hbd.2, ⟨by have := hrt.2.2.1; omega, by have := hrt.2.2.2.1; omega⟩, by have := hrt.1; omega, by have := hrt.2.1; omega⟩
              have hw0 := own_ne HB.out.1.ws hb2 (by decide)
              have hs0 := own_ne HB.out.1.ss hb2 (by decide)
              refine ⟨bel3 HB.out.1.bel (by have := HBX.out; omega) _ _ _, pW, pS, cW, cS, ?_, ((hI.set hnw hns _).set hnw hns _).set hnw hns _, ?_, ?_⟩
              · rw [hfv]
                show _ = Ending.returned (.agg #[.slice pW (fitWords raw n).length cW, .int .i64 pm, .slice pS (fitSyms raw n 8).length cS])
                rw [hlw]
              · rw [hfv]
                show ERow icell 3 1 _ w.heap.size (.slice pW (fitWords raw n).length cW) (fitWords raw n)
                rw [hlw]
                exact erow_set (erow_set (erow_set HB.out.1.ws hw0 _) hw0 _) hw0 _
              · rw [hfv]
                exact erow_set (erow_set (erow_set HB.out.1.ss hs0 _) hs0 _) hs0 _
            have HB2 := Lib.hid hb2
            clear hb3 hb2 hex
            go_wp2_with fail
            exact bodyPost_ret (v := .agg #[.slice pW n cW, .int .i64 pm, .slice pS (fitSyms raw n 8).length cS]) (results_cell_row Tryz.results6 _ _ (bx + 1) _ _ _ _ rfl (set3 HB2.out _ _ _) Tryz.underlying25 rfl img_size) rfl HPF.out
      · have hc3 : (raw.words.length : Int) ≤ (n : Int) := by omega
        clear hc1
        go_wp2_with fail
        have hn1 := heap_alloc_new wr (.cells nameCells 9)
        have hnb := (Bel.refl wr).alloc nameCells 9
        show Code.wp _ _ _ _ (wr.alloc (.cells nameCells 9))
        generalize wr.alloc (.cells nameCells 9) = Wn at hn1 hnb ⊢
        generalize wr.heap.size = bn at hn1 ⊢
        have HFn := Lib.hid (HA.out.1.bel' hnb)
        have HRn := Lib.hid (hnb.stays HA.out.2)
        have HNn := Lib.hid hn1
        clear hn1 hnb HA q0
        go_loopw [6] (fun i wr => ∃ (j : Nat) (pS : Option Addr) (cS : Nat), j ≤ 8 ∧ i = .int .i64 j ∧ Hid (FitSt w bx (bx + 1 + 1) #[.slice wp raw.words.length wc, .int .i64 raw.mem, .slice sp raw.syms.length sc] pm (.slice pW n cW) (fitWords raw n) (.slice pS (fitSyms raw n j).length cS) (fitSyms raw n j) wr ∧ wr.heap[bx + 1]? = some (.cells #[.slice none 0 0, .int .i64 0, .slice none 0 0] 25 (0, 0)) ∧ wr.heap[bn]? = some (.cells nameCells 9 (0, 0)))) (fun i _ => 8 - (intOf i).toNat)
        case atStart => exact ⟨0, none, 0, by omega, rfl, HFn.out, HRn.out, HNn.out⟩
        case round =>
          obtain ⟨j, pS, cS, hj, rfl, HB⟩ := hrel
          obtain ⟨wq, rfl⟩ : ∃ W, W = wr := ⟨_, rfl⟩
          by_cases hj8 : j < 8
          · have hj8' : (j : Int) < 8 := by omega
            have HJ8 : Hid (j + 1 ≤ 8) := Lib.hid hj8
            clear hj hj8
            go_wp2_with fail
            go_loopw [7] (fun i wr => ∃ k : Nat, k ≤ raw.syms.length ∧ i = .int .i64 k ∧ Hid ((FitSt w bx (bx + 1 + 1) #[.slice wp raw.words.length wc, .int .i64 raw.mem, .slice sp raw.syms.length sc] pm (.slice pW n cW) (fitWords raw n) (.slice pS (fitSyms raw n j).length cS) (fitSyms raw n j) wr ∧ wr.heap[bx + 1]? = some (.cells #[.slice none 0 0, .int .i64 0, .slice none 0 0] 25 (0, 0)) ∧ wr.heap[bn]? = some (.cells nameCells 9 (0, 0))) ∧ ∀ (t : Nat) (y : Sym), t < k → raw.syms[t]? = some y → ¬ keyOf y = (j : Int))) (fun i _ => raw.syms.length - (intOf i).toNat)
            case atStart => exact ⟨0, Nat.zero_le _, rfl, HB.out, fun t y ht => by omega⟩
            case round =>
              obtain ⟨k, hk, rfl, HC⟩ := hrel
              have q2 : wr.cell? ⟨bx, 2, none⟩ = some (.slice sp raw.syms.length sc) := cell_of_heap HC.out.1.1.hbx 2
              by_cases hkl : k < raw.syms.length
              · obtain ⟨⟨xs, xp⟩, hx⟩ : ∃ x, raw.syms[k]? = some x := ⟨_, List.getElem?_eq_getElem hkl⟩
                obtain ⟨b, o, hsp, hbl, e1, e2⟩ := SymsQ.get (H.out.syms.bel HC.out.1.1.bel) hx
                obtain ⟨b', o', hsp', hbw, _, _⟩ := SymsQ.get H.out.syms hx
                obtain ⟨rfl, rfl⟩ : b = b' ∧ o = o' := by rw [hsp] at hsp'; simpa using hsp'
                subst hsp
                simp only at e1 e2
                have HXX := Lib.hid hx
                have hkl' : (k : Int) < (raw.syms.length : Int) := by omega
                obtain ⟨kv, hkv⟩ : ∃ v, pick (IntKind.i64.wrap ((xs.size : Int) + xp)) 8 = v := ⟨_, rfl⟩
                have HKV := Lib.hid hkv
                have HIN : Hid (inInt (IntKind.i64.wrap ((xs.size : Int) + xp))) := Lib.hid (by
                  have := IntKind.wrap_i64 ((xs.size : Int) + xp)
                  rw [this]
                  unfold inInt
                  omega)
                have HLT : Hid (k + 1 ≤ raw.syms.length) := Lib.hid hkl
                clear hx hkv hsp' hkl hbl
                go_wp2_with fail
                go_quiet ((go_at_call 17; with_reducible refine Calls.quiet_of_same (pick_same HKV.out HIN.out (by decide) _)))
                have hbq := (Bel.refl wr).drewN nq
                have hst := HC.out.1.1.bel' hbq
                have hre := hbq.stays HC.out.1.2.1
                have hna := hbq.stays HC.out.1.2.2
                have e3 : (wr.drewN nq).cell? ⟨b, o + k * 2 + 1, none⟩ = some (.int .i64 xp) := e2
                generalize wr.drewN nq = Wq at hbq hst hre hna e3 ⊢
                clear hbq e1 e2 q2
                by_cases hkj : kv = (j : Int)
                · have v1 : (kv == (j : Int)) = true := by simp [hkj]
                  obtain ⟨nm, hnm⟩ : ∃ s, names.getD j ⟨#[]⟩ = s := ⟨_, rfl⟩
                  obtain ⟨pv, hpv⟩ : ∃ v, pick xp ((n : Int) + 1) = v := ⟨_, rfl⟩
                  obtain ⟨hp1, hp2⟩ := pick_bd xp (n := (n : Int) + 1) (by omega)
                  rw [hpv] at hp1 hp2
                  have hsu : fitSyms raw n (j + 1) = fitSyms raw n j ++ [⟨nm, 4 * pv⟩] := by
                    rw [fitSyms_succ, symFor_yes HXX.out (show keyOf ⟨xs, xp⟩ = (j : Int) from HKV.out.trans hkj) HC.out.2, hnm, hpv]
                  have HXP : Hid (inInt xp) := Lib.hid (H.out.wfs _ (List.mem_of_getElem? HXX.out)).2
                  have hFd := hst.bel' ((Bel.refl Wq).drew)
                  have hRd : Wq.drew.heap[bx + 1]? = some (.cells #[.slice none 0 0, .int .i64 0, .slice none 0 0] 25 (0, 0)) := hre
                  have hNd : Wq.drew.heap[bn]? = some (.cells nameCells 9 (0, 0)) := hna
                  obtain ⟨v', W2, hrun, hc3, hf3, ⟨p', c', hv'⟩, hall, hF2⟩ := hFd.sym nm (4 * pv) (by have := fitSyms_len raw n j; have := HJ8.out; omega)
                  have hlen1 : (fitSyms raw n j).length + 1 = (fitSyms raw n (j + 1)).length := by rw [hsu, List.length_append]; rfl
                  rw [hlen1] at hv'
                  rw [← hsu] at hF2
                  subst hv'
                  have hbk : ∃ cs t fr, Wq.drew.heap[b]? = some (.cells cs t fr) := by
                    have hc : Wq.drew.cell? ⟨b, o + k * 2 + 1, none⟩ = some (.int .i64 xp) := e3
                    unfold World.cell? at hc
                    split at hc
                    · rename_i cs t fr hh
                      exact ⟨cs, t, fr, hh⟩
                    · cases hc
                  obtain ⟨bcs, bt, bfr, hbk⟩ := hbk
                  have e3' : bcs[o + k * 2 + 1]? = some (.int .i64 xp) := by rw [← cell_of_heap hbk]; exact e3
                  have hnj : nameCells[j]? = some (.string nm) := by rw [nameCells_get j HJ8.out, hnm]
                  have hS : ∀ W : World, W.heap[bx]? = some (.cells #[.slice wp raw.words.length wc, .int .i64 raw.mem, .slice (some ⟨b, o, none⟩) raw.syms.length sc] 25 (0, 0)) → W.heap[b]? = some (.cells bcs bt bfr) → (∃ z, W.heap[bx + 1 + 1]? = some (.cells #[.slice pW n cW, .int .i64 pm, z] 25 (0, 0))) → W.heap[bn]? = some (.cells nameCells 9 (0, 0)) → S14 bx (bx + 1 + 1) bn b o raw.syms.length sc k j n cW pW xp nm W := by
                    rintro W h1 h2 ⟨z, h3⟩ h4
                    exact ⟨cell_of_heap h1 2, by rw [cell_of_heap h2]; exact e3', cell_of_heap h3 0, by rw [cell_of_heap h4]; exact hnj⟩
                  have hS0 := hS Wq.drew hFd.hbx hbk ⟨_, hFd.hb3⟩ hNd
                  have hbA := (Bel.refl Wq.drew).alloc #[.string nm, .int .i64 (4 * pv)] 42
                  have hSA := hS (Wq.drew.alloc (.cells #[.string nm, .int .i64 (4 * pv)] 42)) (hbA.stays hFd.hbx) (hbA.stays hbk) ⟨_, hbA.stays hFd.hb3⟩ (hbA.stays hNd)
                  have h2b := hall _ _ _ _ hFd.hb3 (.inl (by decide))
                  have h2n := hall _ _ _ _ hNd (.inl (by decide))
                  have h2k := hall _ _ _ _ hbk (.inr hbw)
                  have h2x := hall _ _ _ _ hFd.hbx (.inl (by decide))
                  have h2r := hall _ _ _ _ hRd (.inl (by decide))
                  have hS2 := hS W2 h2x h2k ⟨_, h2b⟩ h2n
                  have hnb3 : bn ≠ bx + 1 + 1 := ne_types h2n h2b (by decide)
                  have hkb3 : b ≠ bx + 1 + 1 := by have := HBX.out; omega
                  have h3n : (W2.setCell ⟨bx + 1 + 1, 2, none⟩ (.slice p' (fitSyms raw n (j + 1)).length c')).heap[bn]? = some (.cells nameCells 9 (0, 0)) := by rw [heap_setCell_other _ _ _ _ hnb3]; exact h2n
                  have hS3 := hS (W2.setCell ⟨bx + 1 + 1, 2, none⟩ (.slice p' (fitSyms raw n (j + 1)).length c')) hF2.hbx (by rw [heap_setCell_other _ _ _ _ hkb3]; exact h2k) ⟨_, hF2.hb3⟩ h3n
                  have HN : Hid (FitSt w bx (bx + 1 + 1) #[.slice wp raw.words.length wc, .int .i64 raw.mem, .slice (some ⟨b, o, none⟩) raw.syms.length sc] pm (.slice pW n cW) (fitWords raw n) (.slice p' (fitSyms raw n (j + 1)).length c') (fitSyms raw n (j + 1)) (W2.setCell ⟨bx + 1 + 1, 2, none⟩ (.slice p' (fitSyms raw n (j + 1)).length c')) ∧ (W2.setCell ⟨bx + 1 + 1, 2, none⟩ (.slice p' (fitSyms raw n (j + 1)).length c')).heap[bx + 1]? = some (.cells #[.slice none 0 0, .int .i64 0, .slice none 0 0] 25 (0, 0)) ∧ (W2.setCell ⟨bx + 1 + 1, 2, none⟩ (.slice p' (fitSyms raw n (j + 1)).length c')).heap[bn]? = some (.cells nameCells 9 (0, 0))) := Lib.hid ⟨hF2, by rw [heap_setCell_other _ _ _ _ (show bx + 1 ≠ bx + 1 + 1 by omega)]; exact h2r, h3n⟩
                  have hc0 : Wq.drew.cell? ⟨bx + 1 + 1, 2, none⟩ = some (.slice pS (fitSyms raw n j).length cS) := cell_of_heap hFd.hb3 2
                  have hc0A : (Wq.drew.alloc (.cells #[.string nm, .int .i64 (4 * pv)] 42)).cell? ⟨bx + 1 + 1, 2, none⟩ = some (.slice pS (fitSyms raw n j).length cS) := cell_of_heap (hbA.stays hFd.hb3) 2
                  obtain ⟨WA, hWA⟩ : ∃ W, Wq.drew.alloc (.cells #[.string nm, .int .i64 (4 * pv)] 42) = W := ⟨_, rfl⟩
                  have HWA : Hid ((Wq.alloc (.cells #[.string nm, .int .i64 (4 * pv)] 42)).drew = WA) := Lib.hid hWA
                  rw [hWA] at hrun hSA hc0A
                  have HC0A := Lib.hid hc0A
                  have HRUN := Lib.hid hrun
                  have HC3 := Lib.hid hc3
                  have HF3 := Lib.hid hf3
                  have HC0 := Lib.hid hc0
                  have HS0 := Lib.hid hS0
                  have HSA := Lib.hid hSA
                  have HS2 := Lib.hid hS2
                  have HS3 := Lib.hid hS3
                  have HPV := Lib.hid hpv
                  clear hst hre hna e3 hkj hnm hpv hsu hFd hRd hNd hrun hc3 hf3 hall hF2 hlen1 hbk e3' hnj hS hS0 hbA hSA h2b h2n h2k h2x h2r hS2 hnb3 hkb3 h3n hS3 hc0 hc0A hWA hbw
                  clear bcs bt bfr
                  go_wp2_with fail
                  simp only [v1]
                  clear v1
                  have HN1 : Hid ((1 : Int) ≤ (n : Int) + 1) := Lib.hid (by omega)
                  have vn1 : IntKind.i64.wrap ((n : Int) + 1) = (n : Int) + 1 := IntWalk.i64_in _ (by constructor <;> omega)
                  have vm4 : IntKind.i64.wrap (4 * pv) = 4 * pv := IntWalk.i64_in _ (by constructor <;> omega)
                  refine wp_region_held_drew (S := S14 bx (bx + 1 + 1) bn b o raw.syms.length sc k j n cW pW xp nm) (by kernel_rfl) (HS0.out) (fun hS => ?_)
                  refine takeD 63 (i := 0) (v := ?vb10) rfl rfl (by kernel_rfl) (by kernel_rfl) (by kernel_rfl) (fun _ _ _ h => h) (by kernel_rfl) ?hyb10 hS ?restb10
                  case hyb10 => (intro w0 hSw; obtain ⟨s0, s1, s2, s3⟩ := hSw; first | (go_simp; done) | (go_simp; with_reducible rfl))
                  simp only [List.setIfInBounds_toArray, List.set_cons_zero, List.set_cons_succ]
                  refine takeD 65 (i := 2) (v := ?vb11) rfl rfl (by kernel_rfl) (by kernel_rfl) (by kernel_rfl) (fun _ _ _ h => h) (by kernel_rfl) ?hyb11 hS ?restb11
                  case hyb11 => (intro w0 hSw; obtain ⟨s0, s1, s2, s3⟩ := hSw; first | (go_simp; done) | (go_simp; with_reducible rfl))
                  simp only [List.setIfInBounds_toArray, List.set_cons_zero, List.set_cons_succ]
                  refine takeD 66 (i := 3) (v := ?vb12) rfl rfl (by kernel_rfl) (by kernel_rfl) (by kernel_rfl) (fun _ _ _ h => h) (by kernel_rfl) ?hyb12 hS ?restb12
                  case hyb12 => (intro w0 hSw; obtain ⟨s0, s1, s2, s3⟩ := hSw; first | (go_simp; done) | (go_simp; with_reducible rfl))
                  simp only [List.setIfInBounds_toArray, List.set_cons_zero, List.set_cons_succ]
                  refine takeD 67 (i := 4) (v := ?vb13) rfl rfl (by kernel_rfl) (by kernel_rfl) (by kernel_rfl) (fun _ _ _ h => h) (by kernel_rfl) ?hyb13 hS ?restb13
                  case hyb13 => (intro w0 hSw; obtain ⟨s0, s1, s2, s3⟩ := hSw; first | (go_simp; done) | (go_simp; with_reducible rfl))
                  simp only [List.setIfInBounds_toArray, List.set_cons_zero, List.set_cons_succ]
                  refine takeD 68 (i := 5) (v := ?vb14) rfl rfl (by kernel_rfl) (by kernel_rfl) (by kernel_rfl) (fun _ _ _ h => h) (by kernel_rfl) ?hyb14 hS ?restb14
                  case hyb14 => (intro w0 hSw; obtain ⟨s0, s1, s2, s3⟩ := hSw; first | (go_simp; done) | (go_simp; with_reducible rfl))
                  simp only [List.setIfInBounds_toArray, List.set_cons_zero, List.set_cons_succ]
                  refine takeD 69 (i := 6) (v := ?vb15) rfl rfl (by kernel_rfl) (by kernel_rfl) (by kernel_rfl) (fun _ _ _ h => h) (by kernel_rfl) ?hyb15 hS ?restb15
                  case hyb15 => (intro w0 hSw; obtain ⟨s0, s1, s2, s3⟩ := hSw; first | (go_simp; done) | (go_simp; with_reducible rfl))
                  simp only [List.setIfInBounds_toArray, List.set_cons_zero, List.set_cons_succ]
                  refine takeD 70 (i := 7) (v := ?vb16) rfl rfl (by kernel_rfl) (by kernel_rfl) (by kernel_rfl) (fun _ _ _ h => h) (by kernel_rfl) ?hyb16 hS ?restb16
                  case hyb16 => (intro w0 hSw; obtain ⟨s0, s1, s2, s3⟩ := hSw; first | (go_simp; done) | (go_simp; with_reducible rfl))
                  simp only [List.setIfInBounds_toArray, List.set_cons_zero, List.set_cons_succ]
                  refine takeD 71 (i := 8) (v := ?vb17) rfl rfl (by kernel_rfl) (by kernel_rfl) (by kernel_rfl) (fun _ _ _ h => h) (by kernel_rfl) ?hyb17 hS ?restb17
                  case hyb17 => (intro w0 hSw; obtain ⟨s0, s1, s2, s3⟩ := hSw; first | (go_simp; done) | (go_simp; with_reducible rfl))
                  simp only [List.setIfInBounds_toArray, List.set_cons_zero, List.set_cons_succ]
                  refine takeD 72 (i := 9) (v := ?vb18) rfl rfl (by kernel_rfl) (by kernel_rfl) (by kernel_rfl) (fun _ _ _ h => h) (by kernel_rfl) ?hyb18 hS ?restb18
                  case hyb18 => (intro w0 hSw; obtain ⟨s0, s1, s2, s3⟩ := hSw; first | (go_simp; done) | (go_simp; with_reducible rfl))
                  simp only [List.setIfInBounds_toArray, List.set_cons_zero, List.set_cons_succ]
                  refine takeD 73 (i := 10) (v := ?vb19) rfl rfl (by kernel_rfl) (by kernel_rfl) (by kernel_rfl) (fun _ _ _ h => h) (by kernel_rfl) ?hyb19 hS ?restb19
                  case hyb19 => (intro w0 hSw; obtain ⟨s0, s1, s2, s3⟩ := hSw; first | (go_simp; done) | (go_simp; with_reducible rfl))
                  simp only [List.setIfInBounds_toArray, List.set_cons_zero, List.set_cons_succ]
                  refine takeD 74 (i := 11) (v := ?vb20) rfl rfl (by kernel_rfl) (by kernel_rfl) (by kernel_rfl) (fun _ _ _ h => h) (by kernel_rfl) ?hyb20 hS ?restb20
                  case hyb20 => (intro w0 hSw; obtain ⟨s0, s1, s2, s3⟩ := hSw; first | (go_simp; done) | (go_simp; with_reducible rfl))
                  simp only [List.setIfInBounds_toArray, List.set_cons_zero, List.set_cons_succ]
                  refine takeD 75 (i := 12) (v := ?vb21) rfl rfl (by kernel_rfl) (by kernel_rfl) (by kernel_rfl) (fun _ _ _ h => h) (by kernel_rfl) ?hyb21 hS ?restb21
                  case hyb21 => (intro w0 hSw; obtain ⟨s0, s1, s2, s3⟩ := hSw; first | (go_simp; done) | (go_simp; with_reducible rfl))
                  simp only [List.setIfInBounds_toArray, List.set_cons_zero, List.set_cons_succ]
                  refine takeD 76 (i := 13) (v := ?vb22) rfl rfl (by kernel_rfl) (by kernel_rfl) (by kernel_rfl) (fun _ _ _ h => h) (by kernel_rfl) ?hyb22 hS ?restb22
                  case hyb22 => (intro w0 hSw; obtain ⟨s0, s1, s2, s3⟩ := hSw; first | (go_simp; done) | (go_simp; with_reducible rfl))
                  simp only [List.setIfInBounds_toArray, List.set_cons_zero, List.set_cons_succ]
                  refine takeD 77 (i := 14) (v := ?vb23) rfl rfl (by kernel_rfl) (by kernel_rfl) (by kernel_rfl) (fun _ _ _ h => h) (by kernel_rfl) ?hyb23 hS ?restb23
                  case hyb23 => (intro w0 hSw; obtain ⟨s0, s1, s2, s3⟩ := hSw; first | (go_simp; done) | (go_simp; with_reducible rfl))
                  simp only [List.setIfInBounds_toArray, List.set_cons_zero, List.set_cons_succ]
                  refine takeD 78 (i := 15) (v := ?vb24) rfl rfl (by kernel_rfl) (by kernel_rfl) (by kernel_rfl) (fun _ _ _ h => h) (by kernel_rfl) ?hyb24 hS ?restb24
                  case hyb24 => (intro w0 hSw; obtain ⟨s0, s1, s2, s3⟩ := hSw; first | (go_simp; done) | (go_simp; with_reducible rfl))
                  simp only [List.setIfInBounds_toArray, List.set_cons_zero, List.set_cons_succ]
                  refine twoE 64 79 (i1 := 1) (i2 := 16) rfl rfl rfl rfl (by kernel_rfl) (by kernel_rfl) (by kernel_rfl) (fun K hK => ?_) (fun K hK => ?_)
                  · simp only [List.setIfInBounds_toArray, List.set_cons_zero, List.set_cons_succ] at hK
                    have c0 := HC0.out
                    go_simp
                    refine hK _ _ HS0.out (fun _ => ?_)
                    clear hK K c0
                    refine onlyE 79 (i := 16) rfl rfl (by kernel_rfl) (by kernel_rfl) (fun K hK => ?_)
                    simp only [List.setIfInBounds_toArray, List.set_cons_zero, List.set_cons_succ] at hK
                    go_simp
                    go_at_call 17
                    with_reducible refine (pick_lit HPV.out HXP.out HN1.out _).mono ?_
                    rintro e w7 ⟨rfl, rfl⟩
                    refine hK _ _ HS0.out (fun _ => ?_)
                    clear hK K
                    refine takeD 80 (i := 17) (v := ?vb25) rfl rfl (by kernel_rfl) (by kernel_rfl) (by kernel_rfl) (fun _ _ _ h => h) (by kernel_rfl) ?hyb25 HS0.out ?restb25
                    case hyb25 => (intro w0 hSw; obtain ⟨s0, s1, s2, s3⟩ := hSw; first | (go_simp; done) | (go_simp; with_reducible rfl))
                    simp only [List.setIfInBounds_toArray, List.set_cons_zero, List.set_cons_succ]
                    refine takeD 81 (i := 18) (v := ?vb26) rfl rfl (by kernel_rfl) (by kernel_rfl) (by kernel_rfl) (fun _ _ _ h => h) (by kernel_rfl) ?hyb26 HS0.out ?restb26
                    case hyb26 => (intro w0 hSw; obtain ⟨s0, s1, s2, s3⟩ := hSw; first | (go_simp; done) | (go_simp; with_reducible rfl))
                    simp only [List.setIfInBounds_toArray, List.set_cons_zero, List.set_cons_succ]
                    refine onlyE 82 (i := 19) rfl rfl (by kernel_rfl) (by kernel_rfl) (fun K hK => ?_)
                    simp only [List.setIfInBounds_toArray, List.set_cons_zero, List.set_cons_succ] at hK
                    go_simp
                    rw [HWA.out]
                    refine hK _ WA HSA.out (fun _ => ?_)
                    clear hK K
                    refine onlyE 83 (i := 20) rfl rfl (by kernel_rfl) (by kernel_rfl) (fun K hK => ?_)
                    simp only [List.setIfInBounds_toArray, List.set_cons_zero, List.set_cons_succ] at hK
                    refine wp_app (.tmp 64) (.tmp 82) 23 rfl _ _ _ (by rfl) (by rfl) HRUN.out rfl ?_
                    simp only [List.setIfInBounds_toArray, List.set_cons_zero, List.set_cons_succ]
                    refine hK _ _ (HS2.out) (fun _ => ?_)
                    clear hK K
                    refine takeD 84 (i := 21) (v := ?vb27) rfl rfl (by kernel_rfl) (by kernel_rfl) (by kernel_rfl) (fun _ _ _ h => h) (by kernel_rfl) ?hyb27 HS2.out ?restb27
                    case hyb27 => (intro w0 hSw; obtain ⟨s0, s1, s2, s3⟩ := hSw; first | (go_simp; done) | (go_simp; with_reducible rfl))
                    simp only [List.setIfInBounds_toArray, List.set_cons_zero, List.set_cons_succ]
                    refine onlyN (i := 22) rfl rfl (by kernel_rfl) (by kernel_rfl) (fun K hK => ?_)
                    have c3 := HC3.out
                    have f3 := HF3.out
                    go_simp
                    refine hK undef _ (HS3.out) (fun _ => ?_)
                    clear hK K c3 f3
                    refine wpAnyH_done (by kernel_rfl) ?_ _
                    clear hn40 hp1 hp2 vn1 vm4
                    go_wp2_with fail
                    go_roundw
                    case rel => exact ⟨j + 1, p', c', HJ8.out, by go_num, HN.out⟩
                    case measure => simp [intOf]; have := HJ8.out; omega
                  · simp only [List.setIfInBounds_toArray, List.set_cons_zero, List.set_cons_succ] at hK
                    go_simp
                    go_at_call 17
                    with_reducible refine (pick_lit HPV.out HXP.out HN1.out _).mono ?_
                    rintro e w7 ⟨rfl, rfl⟩
                    refine hK _ _ HS0.out (fun _ => ?_)
                    clear hK K
                    refine takeD 80 (i := 17) (v := ?vb28) rfl rfl (by kernel_rfl) (by kernel_rfl) (by kernel_rfl) (fun _ _ _ h => h) (by kernel_rfl) ?hyb28 HS0.out ?restb28
                    case hyb28 => (intro w0 hSw; obtain ⟨s0, s1, s2, s3⟩ := hSw; first | (go_simp; done) | (go_simp; with_reducible rfl))
                    simp only [List.setIfInBounds_toArray, List.set_cons_zero, List.set_cons_succ]
                    refine takeD 81 (i := 18) (v := ?vb29) rfl rfl (by kernel_rfl) (by kernel_rfl) (by kernel_rfl) (fun _ _ _ h => h) (by kernel_rfl) ?hyb29 HS0.out ?restb29
                    case hyb29 => (intro w0 hSw; obtain ⟨s0, s1, s2, s3⟩ := hSw; first | (go_simp; done) | (go_simp; with_reducible rfl))
                    simp only [List.setIfInBounds_toArray, List.set_cons_zero, List.set_cons_succ]
                    refine twoE 64 82 (i1 := 1) (i2 := 19) rfl rfl rfl rfl (by kernel_rfl) (by kernel_rfl) (by kernel_rfl) (fun K hK => ?_) (fun K hK => ?_)
                    · simp only [List.setIfInBounds_toArray, List.set_cons_zero, List.set_cons_succ] at hK
                      have c0 := HC0.out
                      go_simp
                      refine hK _ _ HS0.out (fun _ => ?_)
                      clear hK K c0
                      refine onlyE 82 (i := 19) rfl rfl (by kernel_rfl) (by kernel_rfl) (fun K hK => ?_)
                      simp only [List.setIfInBounds_toArray, List.set_cons_zero, List.set_cons_succ] at hK
                      go_simp
                      rw [HWA.out]
                      refine hK _ WA HSA.out (fun _ => ?_)
                      clear hK K
                      refine onlyE 83 (i := 20) rfl rfl (by kernel_rfl) (by kernel_rfl) (fun K hK => ?_)
                      simp only [List.setIfInBounds_toArray, List.set_cons_zero, List.set_cons_succ] at hK
                      refine wp_app (.tmp 64) (.tmp 82) 23 rfl _ _ _ (by rfl) (by rfl) HRUN.out rfl ?_
                      simp only [List.setIfInBounds_toArray, List.set_cons_zero, List.set_cons_succ]
                      refine hK _ _ (HS2.out) (fun _ => ?_)
                      clear hK K
                      refine takeD 84 (i := 21) (v := ?vb30) rfl rfl (by kernel_rfl) (by kernel_rfl) (by kernel_rfl) (fun _ _ _ h => h) (by kernel_rfl) ?hyb30 HS2.out ?restb30
                      case hyb30 => (intro w0 hSw; obtain ⟨s0, s1, s2, s3⟩ := hSw; first | (go_simp; done) | (go_simp; with_reducible rfl))
                      simp only [List.setIfInBounds_toArray, List.set_cons_zero, List.set_cons_succ]
                      refine onlyN (i := 22) rfl rfl (by kernel_rfl) (by kernel_rfl) (fun K hK => ?_)
                      have c3 := HC3.out
                      have f3 := HF3.out
                      go_simp
                      refine hK undef _ (HS3.out) (fun _ => ?_)
                      clear hK K c3 f3
                      refine wpAnyH_done (by kernel_rfl) ?_ _
                      clear hn40 hp1 hp2 vn1 vm4
                      go_wp2_with fail
                      go_roundw
                      case rel => exact ⟨j + 1, p', c', HJ8.out, by go_num, HN.out⟩
                      case measure => simp [intOf]; have := HJ8.out; omega
                    · simp only [List.setIfInBounds_toArray, List.set_cons_zero, List.set_cons_succ] at hK
                      go_simp
                      rw [HWA.out]
                      refine hK _ WA HSA.out (fun _ => ?_)
                      clear hK K
                      refine onlyE 64 (i := 1) rfl rfl (by kernel_rfl) (by kernel_rfl) (fun K hK => ?_)
                      simp only [List.setIfInBounds_toArray, List.set_cons_zero, List.set_cons_succ] at hK
                      have c0 := HC0A.out
                      go_simp
                      refine hK _ _ HSA.out (fun _ => ?_)
                      clear hK K c0
                      refine onlyE 83 (i := 20) rfl rfl (by kernel_rfl) (by kernel_rfl) (fun K hK => ?_)
                      simp only [List.setIfInBounds_toArray, List.set_cons_zero, List.set_cons_succ] at hK
                      refine wp_app (.tmp 64) (.tmp 82) 23 rfl _ _ _ (by rfl) (by rfl) HRUN.out rfl ?_
                      simp only [List.setIfInBounds_toArray, List.set_cons_zero, List.set_cons_succ]
                      refine hK _ _ (HS2.out) (fun _ => ?_)
                      clear hK K
                      refine takeD 84 (i := 21) (v := ?vb31) rfl rfl (by kernel_rfl) (by kernel_rfl) (by kernel_rfl) (fun _ _ _ h => h) (by kernel_rfl) ?hyb31 HS2.out ?restb31
                      case hyb31 => (intro w0 hSw; obtain ⟨s0, s1, s2, s3⟩ := hSw; first | (go_simp; done) | (go_simp; with_reducible rfl))
                      simp only [List.setIfInBounds_toArray, List.set_cons_zero, List.set_cons_succ]
                      refine onlyN (i := 22) rfl rfl (by kernel_rfl) (by kernel_rfl) (fun K hK => ?_)
                      have c3 := HC3.out
                      have f3 := HF3.out
                      go_simp
                      refine hK undef _ (HS3.out) (fun _ => ?_)
                      clear hK K c3 f3
                      refine wpAnyH_done (by kernel_rfl) ?_ _
                      clear hn40 hp1 hp2 vn1 vm4
                      go_wp2_with fail
                      go_roundw
                      case rel => exact ⟨j + 1, p', c', HJ8.out, by go_num, HN.out⟩
                      case measure => simp [intOf]; have := HJ8.out; omega
                · have v1 : (kv == (j : Int)) = false := by simp [hkj]
                  have HN2 : Hid ((FitSt w bx (bx + 1 + 1) #[.slice wp raw.words.length wc, .int .i64 raw.mem, .slice (some ⟨b, o, none⟩) raw.syms.length sc] pm (.slice pW n cW) (fitWords raw n) (.slice pS (fitSyms raw n j).length cS) (fitSyms raw n j) Wq ∧ Wq.heap[bx + 1]? = some (.cells #[.slice none 0 0, .int .i64 0, .slice none 0 0] 25 (0, 0)) ∧ Wq.heap[bn]? = some (.cells nameCells 9 (0, 0))) ∧ ∀ (t : Nat) (y : Sym), t < k + 1 → raw.syms[t]? = some y → ¬ keyOf y = (j : Int)) := Lib.hid ⟨⟨hst, hre, hna⟩, fun t y ht hy => by
                    by_cases e : t = k
                    · rw [e, HXX.out] at hy
                      obtain rfl := Option.some.inj hy
                      exact fun c => hkj (HKV.out.symm.trans c)
                    · exact HC.out.2 t y (by omega) hy⟩
                  clear hst hre hna e3 hkj hbw
                  go_wp2_with fail
                  go_roundw
                  case rel => exact ⟨k + 1, HLT.out, by go_num, HN2.out⟩
                  case measure => simp [intOf]; have := HLT.out; omega
              · obtain rfl : k = raw.syms.length := by omega
                have hsu : fitSyms raw n (j + 1) = fitSyms raw n j := by
                  rw [fitSyms_succ, symFor_no HC.out.2, List.append_nil]
                have HN3 : Hid (FitSt w bx (bx + 1 + 1) #[.slice wp raw.words.length wc, .int .i64 raw.mem, .slice sp raw.syms.length sc] pm (.slice pW n cW) (fitWords raw n) (.slice pS (fitSyms raw n (j + 1)).length cS) (fitSyms raw n (j + 1)) wr ∧ wr.heap[bx + 1]? = some (.cells #[.slice none 0 0, .int .i64 0, .slice none 0 0] 25 (0, 0)) ∧ wr.heap[bn]? = some (.cells nameCells 9 (0, 0))) := Lib.hid (by rw [hsu]; exact HC.out.1)
                clear hsu hkl hk
                go_wp2_with fail
                go_roundw
                case rel => exact ⟨j + 1, pS, cS, HJ8.out, by go_num, HN3.out⟩
                case measure => simp [intOf]; have := HJ8.out; omega
          · obtain rfl : j = 8 := by omega
            clear hj hj8
            have hb3 := HB.out.1.hb3
            have hb2 := HB.out.2.1
            have c0 : wq.cell? ⟨bx + 1 + 1, 0, none⟩ = some (.slice pW n cW) := cell_of_heap hb3 0
            have c1 : wq.cell? ⟨bx + 1 + 1, 1, none⟩ = some (.int .i64 pm) := cell_of_heap hb3 1
            have c2 : wq.cell? ⟨bx + 1 + 1, 2, none⟩ = some (.slice pS (fitSyms raw n 8).length cS) := cell_of_heap hb3 2
            have d0 : wq.cell? ⟨bx + 1, 0, none⟩ = some (.slice none 0 0) := cell_of_heap hb2 0
            have d1 : wq.cell? ⟨bx + 1, 1, none⟩ = some (.int .i64 0) := cell_of_heap hb2 1
            have d2 : wq.cell? ⟨bx + 1, 2, none⟩ = some (.slice none 0 0) := cell_of_heap hb2 2
            have g0 := frozen_of_heap hb2 0
            have g1 := frozen_of_heap hb2 1
            have g2 := frozen_of_heap hb2 2
            have hex : pW = pW ∧ True := ⟨rfl, trivial⟩
            have HPF : Hid (FitOwn raw w (.returned (.agg #[.slice pW n cW, .int .i64 pm, .slice pS (fitSyms raw n 8).length cS])) (((wq.setCell ⟨bx + 1, 0, none⟩ (.slice pW n cW)).setCell ⟨bx + 1, 1, none⟩ (.int .i64 pm)).setCell ⟨bx + 1, 2, none⟩ (.slice pS (fitSyms raw n 8).length cS))) := by
              obtain ⟨hi1, hn1⟩ := erow_at (enc := icell) (k := 1) (fun _ => rfl) HB.out.1.ws
              obtain ⟨hi2, hn2⟩ := erow_at (enc := scell) (k := 2) (fun _ => rfl) HB.out.1.ss
              have hnw := hn1 hb2 (by decide)
              have hns := hn2 hb2 (by decide)
              have hfv : fitV raw = ⟨fitWords raw n, pm, fitSyms raw n 8⟩ := by unfold fitV; rw [HNL.out, HPM.out]
              have hlw : (fitWords raw n).length = n := by rw [← HNL.out]; exact fitWords_len raw
              have hbd := fit_bounds raw
              have hrt := right_parts (fit_right raw)
              have hI : ImgAt wq pW pS (fitV raw) := by
                refine ⟨by rw [hfv]; exact hi1, by rw [hfv]; exact hi2, hbd.1, hbd.2, ⟨by have := hrt.2.2.1; omega, by have := hrt.2.2.2.1; omega⟩, by have := hrt.1; omega, by have := hrt.2.1; omega⟩
              have hw0 := own_ne HB.out.1.ws hb2 (by decide)
              have hs0 := own_ne HB.out.1.ss hb2 (by decide)
              refine ⟨bel3 HB.out.1.bel (by have := HBX.out; omega) _ _ _, pW, pS, cW, cS, ?_, ((hI.set hnw hns _).set hnw hns _).set hnw hns _, ?_, ?_⟩
              · rw [hfv]
                show _ = Ending.returned (.agg #[.slice pW (fitWords raw n).length cW, .int .i64 pm, .slice pS (fitSyms raw n 8).length cS])
                rw [hlw]
              · rw [hfv]
                show ERow icell 3 1 _ w.heap.size (.slice pW (fitWords raw n).length cW) (fitWords raw n)
                rw [hlw]
                exact erow_set (erow_set (erow_set HB.out.1.ws hw0 _) hw0 _) hw0 _
              · rw [hfv]
                exact erow_set (erow_set (erow_set HB.out.1.ss hs0 _) hs0 _) hs0 _
            have HB2 := Lib.hid hb2
            clear hb3 hb2 hex
            go_wp2_with fail
            exact bodyPost_ret (v := .agg #[.slice pW n cW, .int .i64 pm, .slice pS (fitSyms raw n 8).length cS]) (results_cell_row Tryz.results6 _ _ (bx + 1) _ _ _ _ rfl (set3 HB2.out _ _ _) Tryz.underlying25 rfl img_size) rfl HPF.out
theorem fit_any {wp sp : Option Addr} {wc sc : Nat} {raw : Img} (w : World) (H : Hid (ImgAt w wp sp raw)) :
    Calls Tryz.prog 6 #[imgV wp sp wc sc raw] w (FitPost raw w) := by
  refine (fit_own w H).mono ?_
  rintro e w' ⟨hb, p, q, c, d, he, hI, _, _⟩
  exact ⟨hb, p, q, c, d, he, hI⟩
end Go.Proofs.YtbfmlbcjggplgaaGreatDoor
