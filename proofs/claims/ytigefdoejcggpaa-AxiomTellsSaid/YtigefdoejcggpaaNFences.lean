/- AxiomFences' walk. -/
import Derived.Test.YtigefdoejcggpaaNDrawn
namespace Go.Proofs.Ytigefdoejcggpaa
open Go.RowKit Ax
set_option linter.unusedVariables false
set_option linter.unusedSimpArgs false
theorem fence_out {l : List Ev} {k : Nat} {h : Int} (hk : k ≤ l.length) (hs : allowed (l.take k ++ [((h, 3, 0, 0) : Ev)] ++ l.drop k) = true) : allowed l = true := by
  have h1 : (l.take k).length = k := by rw [List.length_take]; omega
  have e1 : ev (l.take k ++ [((h, 3, 0, 0) : Ev)] ++ l.drop k) k = (h, 3, 0, 0) := ev_get (by rw [List.append_assoc, List.getElem?_append_right (by omega), h1, Nat.sub_self]; rfl)
  have h2 := erase_allowed (k := k) (by rw [List.length_append, List.length_append, h1]; simp; omega) (by rw [e1]; exact (by decide : (3 : Int) ≠ 2)) hs
  rw [List.append_assoc, List.eraseIdx_append_of_length_le (by omega), h1, Nat.sub_self] at h2
  simpa using h2
/-- one thing more, of a block that lies there -/
theorem push_at {α : Type} {enc : α → List Value} {k : Nat} {t T : TypeId} {bytes : Nat} (H : RowTy enc k t T bytes) {w : World} {base : Nat} {p : Option Addr} {n c : Nat} {l : List α} (h : ERow enc T k w base (.slice p n c) l) {B : Nat} {cs : Array Value} {T' : TypeId} {fr : Nat × Nat} {x : α} (hh : w.heap[B]? = some (.cells cs T' fr)) (hcs : cs.toList = enc x) (hL : l.length + 1 ≤ 100000) (hb : base ≤ w.heap.size) {c1 : Nat} :
    ∃ p2 c2 w', (Builtin.append_ #[t, t] t #[.slice p n c, .slice (some ⟨B, 0, none⟩) 1 c1]).run Try.prog w = .ok (.slice p2 (n + 1) c2) w' ∧ ERow enc T k w' base (.slice p2 (n + 1) c2) (l ++ [x]) ∧ (∀ w0, Bel w0 w → base = w0.heap.size → Bel w0 w') := by
  have hnl : n = l.length := ERow.n (s := ⟨p, n, c⟩) h
  obtain ⟨v', w', hrun, hown, hsv, -, -⟩ := app_more H h (b := B) (o := 0) (m := 1) (c := c1) (r := [x]) rfl (fun j y hj i v hv => by
    cases j with
    | zero =>
      cases hj
      rw [cell_of_heap hh, Nat.zero_mul, Nat.zero_add, ← Array.getElem?_toList, hcs]
      exact hv
    | succ j => simp at hj) (.inl (by omega)) hL hb
  obtain ⟨p2, c2, hv, -, -⟩ := ERow.form H.len hown
  have e : (l ++ [x]).length = n + 1 := by rw [List.length_append, hnl]; rfl
  rw [e] at hv
  subst hv
  exact ⟨p2, c2, w', hrun, hown, fun w0 h0 he => Sv.bel hsv h0 fun b hb' => by
    obtain ⟨h3, -⟩ := ERow.blk h hb'
    omega⟩
set_option maxRecDepth 100000 in
set_option maxHeartbeats 4000000 in
theorem fences_walk {w : World} {p : Option Addr} {raw : List Q4} {n c : Nat} (hl : LAt w p raw) (hn : raw.length = n) (hw : ∀ x ∈ raw, in4 x) {wh ht : Int} (hwh : inInt wh) (hht : inInt ht) :
    Calls Try.prog 6 #[.slice p n c, .int .i64 wh, .int .i64 ht] w (OneB true w) := by
  have HWH := Lib.hid hwh
  have HHT := Lib.hid hht
  clear hwh hht
  have HL := Lib.hid hl
  have HN := Lib.hid hn
  have HW := Lib.hid hw
  clear hl hn hw
  go_enter Try.func6, Try.ntmps6
  go_wp2_with fail
  refine (awake_any _).mono ?_
  rintro e wa ⟨rfl, hba⟩
  have HBA := Lib.hid hba
  clear hba
  go_wp2_with fail
  refine (fit_lit (LAt.bel HL.out HBA.out) HN.out HW.out).mono ?_
  rintro e wf ⟨p2, n2, c2, rfl, hbf, hef⟩
  have HSM := Lib.hid (fit_small raw)
  generalize fitV raw = l at hef HSM
  have HWF := Lib.hid (HBA.out.trans hbf)
  have HE := Lib.hid hef
  have HN2 : Hid (l.length = n2) := Lib.hid (by have := ERow.n (s := ⟨p2, n2, c2⟩) hef; exact this.symm)
  have HC2 : Hid (n2 ≤ c2) := Lib.hid (ERow.c (s := ⟨p2, n2, c2⟩) hef)
  have hn6 : n2 ≤ 6 := by have := HN2.out; have := HSM.out.len; omega
  have HN5 : Hid (n2 ≤ 5000) := Lib.hid (by omega)
  have HL2 := Lib.hid (ERow.lat (s := ⟨p2, n2, c2⟩) hef)
  clear hbf hef HL HW HN
  have hn1 : IntKind.i64.wrap ((n2 : Int) + 1) = (n2 : Int) + 1 := IntWalk.i64_in _ (by omega)
  obtain ⟨k0, hk0⟩ : ∃ y, pick wh ((n2 : Int) + 1) = y := ⟨_, rfl⟩
  have hkb := pick_bd wh (n := (n2 : Int) + 1) (by omega)
  rw [hk0] at hkb
  obtain ⟨k, rfl⟩ : ∃ k : Nat, k0 = k := ⟨k0.toNat, by omega⟩
  obtain ⟨h, hh⟩ : ∃ y, pick ht 4 = y := ⟨_, rfl⟩
  have HK0 := Lib.hid hk0
  have HH := Lib.hid hh
  have HK : Hid (k ≤ n2) := Lib.hid (by omega)
  have h1n : (1 : Int) ≤ (n2 : Int) + 1 := by omega
  have hkn : (k : Int) ≤ n2 := by omega
  have hkn' : k ≤ n2 := by omega
  have hkc : (k : Int) ≤ c2 := by have := HC2.out; omega
  clear hk0 hkb hh
  go_wp2_with (go_at_call 14; ((with_reducible refine (pick_lit HK0.out HWH.out h1n _).mono ?_); rintro e wq ⟨rfl, rfl⟩))
  have HT1 : Hid ((l.take k).length = k) := Lib.hid (by rw [List.length_take, HN2.out]; omega)
  have HT2 : Hid ((l.drop k).length = n2 - k) := Lib.hid (by rw [List.length_drop, HN2.out])
  have HK6 : Hid (k ≤ 6 ∧ n2 - k ≤ 6) := Lib.hid (by omega)
  rcases HE.out.2 with ⟨hv, _⟩ | ⟨g, cap, cur, hv, -⟩
  · injection hv with e1 e2 e3
    subst e1
    subst e2
    subst e3
    obtain rfl : k = 0 := by omega
    have HSK : Hid (EncAt encQ 4 wf none (l.drop 0)) := Lib.hid HL2.out
    go_upto_region 4 with (fail)
    refine wp_region_held_drew (S := fun _ => True) (by kernel_rfl) trivial (fun _ => ?_)
    refine takeD 19 (i := 0) (v := ?v1) rfl rfl (by kernel_rfl) (by kernel_rfl) (by kernel_rfl) (fun _ _ _ h => h) (by kernel_rfl) ?hy1 trivial ?rest1
    case hy1 => (intro w0 hSw; first | (go_simp; done) | (go_simp; with_reducible rfl))
    try simp only [List.setIfInBounds_toArray, List.set_cons_zero, List.set_cons_succ]
    refine takeD 20 (i := 1) (v := ?v2) rfl rfl (by kernel_rfl) (by kernel_rfl) (by kernel_rfl) (fun _ _ _ h => h) (by kernel_rfl) ?hy2 trivial ?rest2
    case hy2 => (intro w0 hSw; first | (go_simp; done) | (go_simp; with_reducible rfl))
    try simp only [List.setIfInBounds_toArray, List.set_cons_zero, List.set_cons_succ]
    refine takeD 21 (i := 2) (v := ?v3) rfl rfl (by kernel_rfl) (by kernel_rfl) (by kernel_rfl) (fun _ _ _ h => h) (by kernel_rfl) ?hy3 trivial ?rest3
    case hy3 => (intro w0 hSw; first | (go_simp; done) | (go_simp; with_reducible rfl))
    try simp only [List.setIfInBounds_toArray, List.set_cons_zero, List.set_cons_succ]
    refine takeD 23 (i := 4) (v := ?v4) rfl rfl (by kernel_rfl) (by kernel_rfl) (by kernel_rfl) (fun _ _ _ h => h) (by kernel_rfl) ?hy4 trivial ?rest4
    case hy4 => (intro w0 hSw; first | (go_simp; done) | (go_simp; with_reducible rfl))
    try simp only [List.setIfInBounds_toArray, List.set_cons_zero, List.set_cons_succ]
    refine takeD 28 (i := 9) (v := ?v5) rfl rfl (by kernel_rfl) (by kernel_rfl) (by kernel_rfl) (fun _ _ _ h => h) (by kernel_rfl) ?hy5 trivial ?rest5
    case hy5 => (intro w0 hSw; first | (go_simp; done) | (go_simp; with_reducible rfl))
    try simp only [List.setIfInBounds_toArray, List.set_cons_zero, List.set_cons_succ]
    refine takeD 29 (i := 10) (v := ?v6) rfl rfl (by kernel_rfl) (by kernel_rfl) (by kernel_rfl) (fun _ _ _ h => h) (by kernel_rfl) ?hy6 trivial ?rest6
    case hy6 => (intro w0 hSw; first | (go_simp; done) | (go_simp; with_reducible rfl))
    try simp only [List.setIfInBounds_toArray, List.set_cons_zero, List.set_cons_succ]
    refine takeD 30 (i := 11) (v := ?v7) rfl rfl (by kernel_rfl) (by kernel_rfl) (by kernel_rfl) (fun _ _ _ h => h) (by kernel_rfl) ?hy7 trivial ?rest7
    case hy7 => (intro w0 hSw; first | (go_simp; done) | (go_simp; with_reducible rfl))
    try simp only [List.setIfInBounds_toArray, List.set_cons_zero, List.set_cons_succ]
    refine onlyE 22 (i := 3) rfl rfl (by kernel_rfl) (by kernel_rfl) (fun K hK => ?_)
    try simp only [List.setIfInBounds_toArray, List.set_cons_zero, List.set_cons_succ] at hK
    obtain ⟨v3, w3, hr3, ho3, hb3⟩ := clone_new evTy (w := wf.drew) (src := none) (m := 0) (c := 0) HT1.out (EncAt.take (LAt.bel HL2.out (Bel.refl wf).drew) _) (by have := HK6.out.1; omega)
    obtain ⟨p3, c3, e3, -, -⟩ := ERow.form encQ_len ho3
    rw [HT1.out] at e3
    subst e3
    have HR3 := Lib.hid hr3
    have HO3 := Lib.hid ho3
    have HB3 : Hid (Bel wf w3) := Lib.hid ((Bel.refl wf).drew.trans hb3)
    clear hr3 ho3 hb3
    refine appE (.const (.slice none 0 0)) (.tmp 21) 22 rfl _ _ _ (by rfl) (by rfl) HR3.out ?_
    try simp only [List.setIfInBounds_toArray, List.set_cons_zero, List.set_cons_succ]
    refine hK _ _ trivial (fun _ => ?_)
    clear hK K
    refine onlyE 24 (i := 5) rfl rfl (by kernel_rfl) (by kernel_rfl) (fun K hK => ?_)
    try simp only [List.setIfInBounds_toArray, List.set_cons_zero, List.set_cons_succ] at hK
    go_simp
    go_at_call 14
    refine (pick_lit HH.out HHT.out (by decide) _).mono ?_
    rintro e wq ⟨rfl, rfl⟩
    refine hK _ _ trivial (fun _ => ?_)
    clear hK K
    refine takeD 25 (i := 6) (v := ?v8) rfl rfl (by kernel_rfl) (by kernel_rfl) (by kernel_rfl) (fun _ _ _ h => h) (by kernel_rfl) ?hy8 trivial ?rest8
    case hy8 => (intro w0 hSw; first | (go_simp; done) | (go_simp; with_reducible rfl))
    try simp only [List.setIfInBounds_toArray, List.set_cons_zero, List.set_cons_succ]
    refine onlyE 26 (i := 7) rfl rfl (by kernel_rfl) (by kernel_rfl) (fun K hK => ?_)
    try simp only [List.setIfInBounds_toArray, List.set_cons_zero, List.set_cons_succ] at hK
    go_simp
    refine hK _ _ trivial (fun _ => ?_)
    have hxb := heap_alloc_new w3 (.cells #[.int .i64 h, .int .i64 3, .int .i64 0, .int .i64 0] 26)
    have hbb : Bel w3 (w3.alloc (.cells #[.int .i64 h, .int .i64 3, .int .i64 0, .int .i64 0] 26)) := (Bel.refl _).alloc _ _
    generalize hWW : w3.alloc (.cells #[.int .i64 h, .int .i64 3, .int .i64 0, .int .i64 0] 26) = wB at hxb hbb ⊢
    clear hWW
    generalize w3.heap.size = gB at hxb ⊢
    have HXB := Lib.hid hxb
    have HO3 := Lib.hid (HO3.out.bel hbb)
    have HBB := Lib.hid (HB3.out.trans hbb)
    clear hxb hbb
    clear hK K
    refine onlyE 27 (i := 8) rfl rfl (by kernel_rfl) (by kernel_rfl) (fun K hK => ?_)
    try simp only [List.setIfInBounds_toArray, List.set_cons_zero, List.set_cons_succ] at hK
    obtain ⟨p8, c8, w8, hr8, ho8, hl8⟩ := push_at evTy HO3.out (x := ((h, 3, 0, 0) : Ev)) HXB.out rfl (by rw [HT1.out]; have := HK6.out.1; omega) (HBB.out.size) (c1 := 1)
    have HR8 := Lib.hid hr8
    have HO8 := Lib.hid ho8
    have HB8 : Hid (Bel wf w8) := Lib.hid (hl8 _ HBB.out rfl)
    clear hr8 ho8 hl8
    refine appE (.tmp 22) (.tmp 26) 22 rfl _ _ _ (by rfl) (by rfl) HR8.out ?_
    try simp only [List.setIfInBounds_toArray, List.set_cons_zero, List.set_cons_succ]
    refine hK _ _ trivial (fun _ => ?_)
    clear hK K
    refine onlyE 31 (i := 12) rfl rfl (by kernel_rfl) (by kernel_rfl) (fun K hK => ?_)
    try simp only [List.setIfInBounds_toArray, List.set_cons_zero, List.set_cons_succ] at hK
    obtain ⟨p9, c9, w9, hr9, ho9, -, hl9⟩ := app_list evTy HO8.out (src := none) (m := 0) (c' := 0) HT2.out (EncAt.bel HSK.out HB8.out) (by have h6 := HK6.out; rw [List.length_append, HT1.out, List.length_singleton]; omega) HB8.out.size (by omega)
    have HR9 := Lib.hid hr9
    have HO9 := Lib.hid ho9
    have HB9 : Hid (Bel wf w9) := Lib.hid (hl9 _ HB8.out rfl)
    clear hr9 ho9 hl9
    refine appE (.tmp 27) (.tmp 30) 22 rfl _ _ _ (by rfl) (by rfl) HR9.out ?_
    try simp only [List.setIfInBounds_toArray, List.set_cons_zero, List.set_cons_succ]
    refine hK _ _ trivial (fun _ => ?_)
    clear hK K
    refine takeD 10 (i := 13) (v := ?v9) rfl rfl (by kernel_rfl) (by kernel_rfl) (by kernel_rfl) (fun _ _ _ h => h) (by kernel_rfl) ?hy9 trivial ?rest9
    case hy9 => (intro w0 hSw; first | (go_simp; done) | (go_simp; with_reducible rfl))
    try simp only [List.setIfInBounds_toArray, List.set_cons_zero, List.set_cons_succ]
    refine wpAnyH_done (by kernel_rfl) ?_ _
    clear hkn hkn' hkc h1n hn1 hn6
    have HL9 := Lib.hid (ERow.lat (s := ⟨p9, 0 + 1 + 0, c9⟩) HO9.out)
    have HN9 : Hid ((l.take 0 ++ [((h, 3, 0, 0) : Ev)] ++ l.drop 0).length = 0 + 1 + 0) := Lib.hid (ERow.n (s := ⟨p9, 0 + 1 + 0, c9⟩) HO9.out).symm
    have HC9 : Hid (0 + 1 + 0 ≤ c9) := Lib.hid (ERow.c (s := ⟨p9, 0 + 1 + 0, c9⟩) HO9.out)
    have HM9 : Hid (0 + 1 + 0 ≤ 5000) := Lib.hid (by have := HK6.out; omega)
    obtain ⟨a, ha⟩ : ∃ a, allowed l = a := ⟨_, rfl⟩
    have HA := Lib.hid ha
    cases a
    · have HAM : Hid (allowed (l.take 0 ++ [((h, 3, 0, 0) : Ev)] ++ l.drop 0) = false) := Lib.hid (Bool.eq_false_iff.2 fun c => by
        have := fence_out (by have := HN2.out; have := HK.out; omega) c
        rw [ha] at this
        cases this)
      clear ha
      go_wp2_with fail
      refine (allowed_lit (LAt.bel HL2.out HB9.out) HN2.out HC2.out HN5.out HA.out).mono ?_
      rintro e w5 ⟨rfl, hb5⟩
      have HB5 := Lib.hid hb5
      clear hb5
      go_wp2_with fail
      refine (allowed_lit (LAt.bel HL9.out HB5.out) HN9.out HC9.out HM9.out HAM.out).mono ?_
      rintro e w6 ⟨rfl, hb6⟩
      have HB6 := Lib.hid (HB5.out.trans hb6)
      clear hb6
      go_wp2
      go_ret
      exact ⟨rfl, HWF.out.trans (HB9.out.trans HB6.out)⟩
    · clear ha
      go_wp2_with fail
      refine (allowed_lit (LAt.bel HL2.out HB9.out) HN2.out HC2.out HN5.out HA.out).mono ?_
      rintro e w5 ⟨rfl, hb5⟩
      have HB5 := Lib.hid (HB9.out.trans hb5)
      clear hb5
      go_wp2
      go_ret
      exact ⟨rfl, HWF.out.trans HB5.out⟩
  · injection hv with e1 e2 e3
    subst e1
    clear e2 e3
    have HSK : Hid (EncAt encQ 4 wf (if c2 = k then some ⟨g, 0, none⟩ else some ⟨g, k * 4, none⟩) (l.drop k)) := Lib.hid (by
      by_cases hck : c2 = k
      · rw [if_pos hck, List.drop_of_length_le (by have := HN2.out; have := HC2.out; omega)]
        exact EncAt.nil _ _ _ _
      · rw [if_neg hck]
        have := EncAt.sub HL2.out k l.length
        rw [List.take_length, Nat.zero_add] at this
        exact this)
    go_upto_region 4 with (fail)
    refine wp_region_held_drew (S := fun _ => True) (by kernel_rfl) trivial (fun _ => ?_)
    refine takeD 19 (i := 0) (v := ?v10) rfl rfl (by kernel_rfl) (by kernel_rfl) (by kernel_rfl) (fun _ _ _ h => h) (by kernel_rfl) ?hy10 trivial ?rest10
    case hy10 => (intro w0 hSw; first | (go_simp; done) | (go_simp; with_reducible rfl))
    try simp only [List.setIfInBounds_toArray, List.set_cons_zero, List.set_cons_succ]
    refine takeD 20 (i := 1) (v := ?v11) rfl rfl (by kernel_rfl) (by kernel_rfl) (by kernel_rfl) (fun _ _ _ h => h) (by kernel_rfl) ?hy11 trivial ?rest11
    case hy11 => (intro w0 hSw; first | (go_simp; done) | (go_simp; with_reducible rfl))
    try simp only [List.setIfInBounds_toArray, List.set_cons_zero, List.set_cons_succ]
    refine takeD 21 (i := 2) (v := ?v12) rfl rfl (by kernel_rfl) (by kernel_rfl) (by kernel_rfl) (fun _ _ _ h => h) (by kernel_rfl) ?hy12 trivial ?rest12
    case hy12 => (intro w0 hSw; first | (go_simp; done) | (go_simp; with_reducible rfl))
    try simp only [List.setIfInBounds_toArray, List.set_cons_zero, List.set_cons_succ]
    refine takeD 23 (i := 4) (v := ?v13) rfl rfl (by kernel_rfl) (by kernel_rfl) (by kernel_rfl) (fun _ _ _ h => h) (by kernel_rfl) ?hy13 trivial ?rest13
    case hy13 => (intro w0 hSw; first | (go_simp; done) | (go_simp; with_reducible rfl))
    try simp only [List.setIfInBounds_toArray, List.set_cons_zero, List.set_cons_succ]
    refine takeD 28 (i := 9) (v := ?v14) rfl rfl (by kernel_rfl) (by kernel_rfl) (by kernel_rfl) (fun _ _ _ h => h) (by kernel_rfl) ?hy14 trivial ?rest14
    case hy14 => (intro w0 hSw; first | (go_simp; done) | (go_simp; with_reducible rfl))
    try simp only [List.setIfInBounds_toArray, List.set_cons_zero, List.set_cons_succ]
    refine takeD 29 (i := 10) (v := ?v15) rfl rfl (by kernel_rfl) (by kernel_rfl) (by kernel_rfl) (fun _ _ _ h => h) (by kernel_rfl) ?hy15 trivial ?rest15
    case hy15 => (intro w0 hSw; first | (go_simp; done) | (go_simp; with_reducible rfl))
    try simp only [List.setIfInBounds_toArray, List.set_cons_zero, List.set_cons_succ]
    refine takeD 30 (i := 11) (v := ?v16) rfl rfl (by kernel_rfl) (by kernel_rfl) (by kernel_rfl) (fun _ _ _ h => h) (by kernel_rfl) ?hy16 trivial ?rest16
    case hy16 => (intro w0 hSw; first | (go_simp; done) | (go_simp; with_reducible rfl))
    try simp only [List.setIfInBounds_toArray, List.set_cons_zero, List.set_cons_succ]
    refine onlyE 22 (i := 3) rfl rfl (by kernel_rfl) (by kernel_rfl) (fun K hK => ?_)
    try simp only [List.setIfInBounds_toArray, List.set_cons_zero, List.set_cons_succ] at hK
    obtain ⟨v3, w3, hr3, ho3, hb3⟩ := clone_new evTy (w := wf.drew) (src := (some ⟨g, 0, none⟩)) (m := k) (c := c2) HT1.out (EncAt.take (LAt.bel HL2.out (Bel.refl wf).drew) _) (by have := HK6.out.1; omega)
    obtain ⟨p3, c3, e3, -, -⟩ := ERow.form encQ_len ho3
    rw [HT1.out] at e3
    subst e3
    have HR3 := Lib.hid hr3
    have HO3 := Lib.hid ho3
    have HB3 : Hid (Bel wf w3) := Lib.hid ((Bel.refl wf).drew.trans hb3)
    clear hr3 ho3 hb3
    refine appE (.const (.slice none 0 0)) (.tmp 21) 22 rfl _ _ _ (by rfl) (by rfl) HR3.out ?_
    try simp only [List.setIfInBounds_toArray, List.set_cons_zero, List.set_cons_succ]
    refine hK _ _ trivial (fun _ => ?_)
    clear hK K
    refine onlyE 24 (i := 5) rfl rfl (by kernel_rfl) (by kernel_rfl) (fun K hK => ?_)
    try simp only [List.setIfInBounds_toArray, List.set_cons_zero, List.set_cons_succ] at hK
    go_simp
    go_at_call 14
    refine (pick_lit HH.out HHT.out (by decide) _).mono ?_
    rintro e wq ⟨rfl, rfl⟩
    refine hK _ _ trivial (fun _ => ?_)
    clear hK K
    refine takeD 25 (i := 6) (v := ?v17) rfl rfl (by kernel_rfl) (by kernel_rfl) (by kernel_rfl) (fun _ _ _ h => h) (by kernel_rfl) ?hy17 trivial ?rest17
    case hy17 => (intro w0 hSw; first | (go_simp; done) | (go_simp; with_reducible rfl))
    try simp only [List.setIfInBounds_toArray, List.set_cons_zero, List.set_cons_succ]
    refine onlyE 26 (i := 7) rfl rfl (by kernel_rfl) (by kernel_rfl) (fun K hK => ?_)
    try simp only [List.setIfInBounds_toArray, List.set_cons_zero, List.set_cons_succ] at hK
    go_simp
    refine hK _ _ trivial (fun _ => ?_)
    have hxb := heap_alloc_new w3 (.cells #[.int .i64 h, .int .i64 3, .int .i64 0, .int .i64 0] 26)
    have hbb : Bel w3 (w3.alloc (.cells #[.int .i64 h, .int .i64 3, .int .i64 0, .int .i64 0] 26)) := (Bel.refl _).alloc _ _
    generalize hWW : w3.alloc (.cells #[.int .i64 h, .int .i64 3, .int .i64 0, .int .i64 0] 26) = wB at hxb hbb ⊢
    clear hWW
    generalize w3.heap.size = gB at hxb ⊢
    have HXB := Lib.hid hxb
    have HO3 := Lib.hid (HO3.out.bel hbb)
    have HBB := Lib.hid (HB3.out.trans hbb)
    clear hxb hbb
    clear hK K
    refine onlyE 27 (i := 8) rfl rfl (by kernel_rfl) (by kernel_rfl) (fun K hK => ?_)
    try simp only [List.setIfInBounds_toArray, List.set_cons_zero, List.set_cons_succ] at hK
    obtain ⟨p8, c8, w8, hr8, ho8, hl8⟩ := push_at evTy HO3.out (x := ((h, 3, 0, 0) : Ev)) HXB.out rfl (by rw [HT1.out]; have := HK6.out.1; omega) (HBB.out.size) (c1 := 1)
    have HR8 := Lib.hid hr8
    have HO8 := Lib.hid ho8
    have HB8 : Hid (Bel wf w8) := Lib.hid (hl8 _ HBB.out rfl)
    clear hr8 ho8 hl8
    refine appE (.tmp 22) (.tmp 26) 22 rfl _ _ _ (by rfl) (by rfl) HR8.out ?_
    try simp only [List.setIfInBounds_toArray, List.set_cons_zero, List.set_cons_succ]
    refine hK _ _ trivial (fun _ => ?_)
    clear hK K
    refine onlyE 31 (i := 12) rfl rfl (by kernel_rfl) (by kernel_rfl) (fun K hK => ?_)
    try simp only [List.setIfInBounds_toArray, List.set_cons_zero, List.set_cons_succ] at hK
    obtain ⟨p9, c9, w9, hr9, ho9, -, hl9⟩ := app_list evTy HO8.out (src := (if c2 = k then some ⟨g, 0, none⟩ else some ⟨g, k * 4, none⟩)) (m := (n2 - k)) (c' := (c2 - k)) HT2.out (EncAt.bel HSK.out HB8.out) (by have h6 := HK6.out; rw [List.length_append, HT1.out, List.length_singleton]; omega) HB8.out.size (by omega)
    have HR9 := Lib.hid hr9
    have HO9 := Lib.hid ho9
    have HB9 : Hid (Bel wf w9) := Lib.hid (hl9 _ HB8.out rfl)
    clear hr9 ho9 hl9
    refine appE (.tmp 27) (.tmp 30) 22 rfl _ _ _ (by rfl) (by rfl) HR9.out ?_
    try simp only [List.setIfInBounds_toArray, List.set_cons_zero, List.set_cons_succ]
    refine hK _ _ trivial (fun _ => ?_)
    clear hK K
    refine takeD 10 (i := 13) (v := ?v18) rfl rfl (by kernel_rfl) (by kernel_rfl) (by kernel_rfl) (fun _ _ _ h => h) (by kernel_rfl) ?hy18 trivial ?rest18
    case hy18 => (intro w0 hSw; first | (go_simp; done) | (go_simp; with_reducible rfl))
    try simp only [List.setIfInBounds_toArray, List.set_cons_zero, List.set_cons_succ]
    refine wpAnyH_done (by kernel_rfl) ?_ _
    generalize (if c2 = k then (some ⟨g, 0, none⟩ : Option Addr) else some ⟨g, k * 4, none⟩) = srcX
    clear hkn hkn' hkc h1n hn1 hn6
    have HL9 := Lib.hid (ERow.lat (s := ⟨p9, k + 1 + (n2 - k), c9⟩) HO9.out)
    have HN9 : Hid ((l.take k ++ [((h, 3, 0, 0) : Ev)] ++ l.drop k).length = k + 1 + (n2 - k)) := Lib.hid (ERow.n (s := ⟨p9, k + 1 + (n2 - k), c9⟩) HO9.out).symm
    have HC9 : Hid (k + 1 + (n2 - k) ≤ c9) := Lib.hid (ERow.c (s := ⟨p9, k + 1 + (n2 - k), c9⟩) HO9.out)
    have HM9 : Hid (k + 1 + (n2 - k) ≤ 5000) := Lib.hid (by have := HK6.out; omega)
    obtain ⟨a, ha⟩ : ∃ a, allowed l = a := ⟨_, rfl⟩
    have HA := Lib.hid ha
    cases a
    · have HAM : Hid (allowed (l.take k ++ [((h, 3, 0, 0) : Ev)] ++ l.drop k) = false) := Lib.hid (Bool.eq_false_iff.2 fun c => by
        have := fence_out (by have := HN2.out; have := HK.out; omega) c
        rw [ha] at this
        cases this)
      clear ha
      go_wp2_with fail
      refine (allowed_lit (LAt.bel HL2.out HB9.out) HN2.out HC2.out HN5.out HA.out).mono ?_
      rintro e w5 ⟨rfl, hb5⟩
      have HB5 := Lib.hid hb5
      clear hb5
      go_wp2_with fail
      refine (allowed_lit (LAt.bel HL9.out HB5.out) HN9.out HC9.out HM9.out HAM.out).mono ?_
      rintro e w6 ⟨rfl, hb6⟩
      have HB6 := Lib.hid (HB5.out.trans hb6)
      clear hb6
      go_wp2
      go_ret
      exact ⟨rfl, HWF.out.trans (HB9.out.trans HB6.out)⟩
    · clear ha
      go_wp2_with fail
      refine (allowed_lit (LAt.bel HL2.out HB9.out) HN2.out HC2.out HN5.out HA.out).mono ?_
      rintro e w5 ⟨rfl, hb5⟩
      have HB5 := Lib.hid (HB9.out.trans hb5)
      clear hb5
      go_wp2
      go_ret
      exact ⟨rfl, HWF.out.trans HB5.out⟩
end Go.Proofs.Ytigefdoejcggpaa
