/- AxiomReads' walk. -/
import Derived.Test.YtigefdoejcggpaaNFences
namespace Go.Proofs.Ytigefdoejcggpaa
open Go.RowKit Ax
set_option linter.unusedVariables false
set_option linter.unusedSimpArgs false
theorem lst_bd {l : List Ev} {p : Int → Bool} {d m : Int} {o : List Int} (hd : 0 ≤ d ∧ d < m) (h : ∀ k ∈ o, p k = true → 0 ≤ (ev l k).2.2.2 ∧ (ev l k).2.2.2 < m) : 0 ≤ lst l p d o ∧ lst l p d o < m := by
  induction o generalizing d with
  | nil => exact hd
  | cons k o ih =>
    show 0 ≤ lst l p (if p k then (ev l k).2.2.2 else d) o ∧ _ < m
    refine ih ?_ fun q hq => h q (List.mem_cons_of_mem _ hq)
    cases hp : p k
    · simpa using hd
    · simpa using h k (List.mem_cons_self ..) hp
/-- a number that nobody stores -/
theorem strange_no {l : List Ev} (hs : Small l) {h w : Int} : allowed (l ++ [((h, 1, w, 7) : Ev)]) = false := by
  refine Bool.eq_false_iff.2 fun c => ?_
  obtain ⟨o, ho⟩ := allowed_iff.1 c
  obtain ⟨hr, hO, hk, ht⟩ := holds_parts.1 ho
  have e1 : ev (l ++ [((h, 1, w, 7) : Ev)]) (l.length : Int) = (h, 1, w, 7) := ev_get (by rw [List.getElem?_append_right (Nat.le_refl _), Nat.sub_self]; rfl)
  have hm := hO.all l.length (by simp) (by rw [e1]; rfl)
  obtain ⟨x, y, e⟩ := List.append_of_mem hm
  have h1 := ht x _ y e (by rw [e1])
  have hst : ∀ k ∈ o, pw (l ++ [((h, 1, w, 7) : Ev)]) (l.length : Int) k = true → 0 ≤ (ev (l ++ [((h, 1, w, 7) : Ev)]) k).2.2.2 ∧ (ev (l ++ [((h, 1, w, 7) : Ev)]) k).2.2.2 < 7 := fun k hk hp => by
    obtain ⟨k0, k1, _⟩ := plc_acc (hO.plc k hk)
    obtain ⟨n, rfl⟩ : ∃ n : Nat, k = n := ⟨k.toNat, by omega⟩
    by_cases hn : n < l.length
    · have e2 : ev (l ++ [((h, 1, w, 7) : Ev)]) n = ev l n := ev_get (by rw [List.getElem?_append_left hn]; exact get_ev hn)
      rw [e2]
      obtain ⟨_, _, _, _, h4, h5, _⟩ := hs.bd _ (List.mem_of_getElem? (get_ev hn))
      omega
    · have : n = l.length := by simp at k1; omega
      subst this
      unfold pw isSt at hp
      rw [e1] at hp
      simp at hp
  have hb := lst_bd (l := l ++ [((h, 1, w, 7) : Ev)]) (p := fun k => pw (l ++ [((h, 1, w, 7) : Ev)]) (l.length : Int) k && ahd (l ++ [((h, 1, w, 7) : Ev)]) k (l.length : Int)) (m := 7) (o := y)
    (lst_bd (l := l ++ [((h, 1, w, 7) : Ev)]) (p := pw (l ++ [((h, 1, w, 7) : Ev)]) (l.length : Int)) (d := 0) (m := 7) (o := x) (by decide) fun k hk hp => hst k (by rw [e]; simp [hk]) hp)
    (fun k hk hp => hst k (by rw [e]; simp [hk]) (by rw [Bool.and_eq_true] at hp; exact hp.1))
  rw [← h1, e1] at hb
  have hb2 : (7 : Int) < 7 := hb.2
  omega
/-- a number that its own hart stores later -/
theorem early_no {l : List Ev} (hs : Small l) {h w : Int} : allowed (((h, 1, w, 9) : Ev) :: ((h, 2, w, 9) : Ev) :: l) = false := by
  refine Bool.eq_false_iff.2 fun c => ?_
  obtain ⟨o, ho⟩ := allowed_iff.1 c
  obtain ⟨hr, hO, hk, ht⟩ := holds_parts.1 ho
  generalize hL : ((h, 1, w, 9) : Ev) :: ((h, 2, w, 9) : Ev) :: l = L at hr hO hk ht
  have e0 : ev L 0 = (h, 1, w, 9) := by rw [← hL]; rfl
  have e1 : ev L 1 = (h, 2, w, 9) := by rw [← hL]; rfl
  have hlen : L.length = l.length + 2 := by rw [← hL]; rfl
  have hm := hO.all 0 (by omega) (by show isAcc (ev L 0) = true; rw [e0]; rfl)
  obtain ⟨x, y, e⟩ := List.append_of_mem hm
  have h1 := ht x _ y e (by show (ev L 0).2.1 = 1; rw [e0])
  have hy : ∀ d, lst L (fun k => pw L ((0 : Nat) : Int) k && ahd L k ((0 : Nat) : Int)) d y = d := fun d => by
    rw [lst_filter, List.filter_eq_nil_iff.2 fun a ha => ?_]
    · rfl
    · rw [Bool.and_eq_true]
      rintro ⟨-, c⟩
      have := ahd_lt c
      have := (plc_acc (hO.plc a (by rw [e]; simp [ha]))).1
      omega
  rw [hy] at h1
  have hb := lst_bd (l := L) (p := pw L ((0 : Nat) : Int)) (d := 0) (m := 9) (o := x) (by decide) fun k hkx hp => by
    obtain ⟨k0, k1, _⟩ := plc_acc (hO.plc k (by rw [e]; simp [hkx]))
    obtain ⟨n, rfl⟩ : ∃ n : Nat, k = n := ⟨k.toNat, by omega⟩
    match n, hkx, hp, k1 with
    | 0, hkx, hp, _ => exact absurd hkx (nodup_split hO.one e).1
    | 1, hkx, hp, _ =>
      exfalso
      have hkp := keep_pair.1 hk
      rw [e, List.pairwise_append] at hkp
      have h2 := hkp.2.2 1 hkx ((0 : Nat) : Int) (List.mem_cons_self ..)
      have : kp L ((0 : Nat) : Int) 1 = true := by
        unfold kp ahd
        rw [show ((0 : Nat) : Int) = 0 from rfl, e0, e1]
        simp
      rw [this] at h2
      cases h2
    | n + 2, hkx, hp, k1 =>
      have hn : n < l.length := by rw [hlen] at k1; omega
      have e2 : ev L ((n + 2 : Nat) : Int) = ev l n := by rw [← hL]; exact ev_get (by simpa using get_ev hn)
      rw [e2]
      obtain ⟨_, _, _, _, h4, h5, _⟩ := hs.bd _ (List.mem_of_getElem? (get_ev hn))
      omega
  rw [← h1] at hb
  have hb2 : (ev L 0).2.2.2 < 9 := hb.2
  rw [e0] at hb2
  have : (9 : Int) < 9 := hb2
  omega
theorem two_yes {h w y : Int} (hh : 0 ≤ h ∧ h < 4) (hw : 0 ≤ w ∧ w < 3) (hy : 0 ≤ y ∧ y < 2) : allowed ([((h, 2, w, 9) : Ev), ((h, 1, w, 9) : Ev)] ++ [(((h + 1) % 4, 1, w, 9 * y) : Ev)]) = true := by
  have h4 : h = 0 ∨ h = 1 ∨ h = 2 ∨ h = 3 := by omega
  have w3 : w = 0 ∨ w = 1 ∨ w = 2 := by omega
  have y2 : y = 0 ∨ y = 1 := by omega
  rcases h4 with rfl | rfl | rfl | rfl <;> rcases w3 with rfl | rfl | rfl <;> rcases y2 with rfl | rfl <;> decide +kernel
/-- a slice literal is a row of one's own -/
theorem ERow.made {α : Type} {enc : α → List Value} {k : Nat} {t T : TypeId} {bytes : Nat} (H : RowTy enc k t T bytes) {w : World} {base B n : Nat} {cs : Array Value} {l : List α} (hh : w.heap[B]? = some (.cells cs T (0, 0))) (hcs : cs.toList = l.flatMap enc) (hn : l.length = n) (hb : base ≤ B) (hm : n ≤ 1000) : ERow enc T k w base (.slice (some ⟨B, 0, none⟩) n n) l := by
  have hsz : cs.size = n * k := by rw [← Array.length_toList, hcs, flat_len H.len, hn]
  refine ⟨?_, .inr ⟨B, n, cs, by rw [hn], hb, hh, by omega, by unfold maxLen; omega, hsz, ?_⟩⟩
  · rw [flat_len H.len]
  · rw [hcs, hn, List.take_of_length_le (by rw [flat_len H.len, hn]; exact Nat.le_refl _)]
set_option maxRecDepth 100000 in
set_option maxHeartbeats 4000000 in
theorem reads_walk {w : World} {p : Option Addr} {raw : List Q4} {n c : Nat} (hl : LAt w p raw) (hn : raw.length = n) (hw : ∀ x ∈ raw, in4 x) {ah aw an : Int} (hah : inInt ah) (haw : inInt aw) (han : inInt an) :
    Calls Try.prog 10 #[.slice p n c, .int .i64 ah, .int .i64 aw, .int .i64 an] w (OneB true w) := by
  have HAH := Lib.hid hah
  have HAW := Lib.hid haw
  have HAN := Lib.hid han
  clear hah haw han
  have HL := Lib.hid hl
  have HN := Lib.hid hn
  have HW := Lib.hid hw
  clear hl hn hw
  go_enter Try.func10, Try.ntmps10
  go_wp2_with fail
  refine (awake_any _).mono ?_
  rintro e wa ⟨rfl, hba⟩
  have HBA := Lib.hid hba
  clear hba
  go_wp2_with fail
  refine (fit_lit (LAt.bel HL.out HBA.out) HN.out HW.out).mono ?_
  rintro e wf ⟨p2, n2, c2, rfl, hbf, hef⟩
  have HSM := Lib.hid (fit_small raw)
  generalize fitV raw = l at hef HSM
  have HWF := Lib.hid (HBA.out.trans hbf)
  have HE := Lib.hid hef
  have HN2 : Hid (l.length = n2) := Lib.hid (by have := ERow.n (s := ⟨p2, n2, c2⟩) hef; exact this.symm)
  have HC2 : Hid (n2 ≤ c2) := Lib.hid (ERow.c (s := ⟨p2, n2, c2⟩) hef)
  have hn6 : n2 ≤ 6 := by have := HN2.out; have := HSM.out.len; omega
  have HN5 : Hid (n2 ≤ 5000) := Lib.hid (by omega)
  have HL2 := Lib.hid (ERow.lat (s := ⟨p2, n2, c2⟩) hef)
  clear hbf hef HL HW HN
  obtain ⟨h, hh⟩ : ∃ y, pick ah 4 = y := ⟨_, rfl⟩
  obtain ⟨v, hv⟩ : ∃ y, pick aw 3 = y := ⟨_, rfl⟩
  obtain ⟨y, hy⟩ : ∃ y, pick an 2 = y := ⟨_, rfl⟩
  have hb4 := pick_bd ah (n := 4) (by decide)
  have vb3 := pick_bd aw (n := 3) (by decide)
  have yb2 := pick_bd an (n := 2) (by decide)
  rw [hh] at hb4
  rw [hv] at vb3
  rw [hy] at yb2
  have HH := Lib.hid hh
  have HV := Lib.hid hv
  have HY := Lib.hid hy
  have hw1 : IntKind.i64.wrap (h + 1) = h + 1 := IntWalk.i64_in _ (by omega)
  have hw9 : IntKind.i64.wrap (9 * y) = 9 * y := IntWalk.i64_in _ (by omega)
  obtain ⟨z, hz⟩ : ∃ z, (h + 1).tmod 4 = z := ⟨_, rfl⟩
  have hz2 : z = (h + 1) % 4 := by rw [← hz, Int.tmod_eq_emod_of_nonneg (by omega)]
  have HTW : Hid (allowed ([((h, 2, v, 9) : Ev), ((h, 1, v, 9) : Ev)] ++ [((z, 1, v, 9 * y) : Ev)]) = true) := Lib.hid (by rw [hz2]; exact two_yes hb4 vb3 yb2)
  have HST := Lib.hid (strange_no HSM.out (h := h) (w := v))
  have HEA := Lib.hid (early_no HSM.out (h := h) (w := v))
  have HN6 : Hid (n2 ≤ 6) := Lib.hid hn6
  clear hh hv hy hb4 vb3 yb2 hz2
  -- strange
  obtain ⟨v3, w3, hr3, ho3, hb3⟩ := clone_new evTy (w := wf) (src := p2) (m := n2) (c := c2) HN2.out HL2.out (by omega)
  obtain ⟨p3, c3, e3, -, -⟩ := ERow.form encQ_len ho3
  rw [HN2.out] at e3
  subst e3
  obtain ⟨s5, w5, hr5, ho5, -, hl5, -⟩ := push_one (s := ⟨p3, n2, c3⟩) evTy ho3 (x := ((h, 1, v, 7) : Ev)) (cs := #[.int .i64 h, .int .i64 1, .int .i64 v, .int .i64 7]) rfl (c := 1) (by rw [HN2.out]; have := HN6.out; omega) hb3.size
  have hb5 := hl5 wf hb3 rfl
  -- early
  have hx6 := heap_alloc_new w5 (.cells #[.int .i64 h, .int .i64 1, .int .i64 v, .int .i64 9, .int .i64 h, .int .i64 2, .int .i64 v, .int .i64 9] 26)
  have hb6 : Bel w5 (w5.alloc (.cells #[.int .i64 h, .int .i64 1, .int .i64 v, .int .i64 9, .int .i64 h, .int .i64 2, .int .i64 v, .int .i64 9] 26)) := (Bel.refl _).alloc _ _
  have ho6 := ERow.made evTy (base := w5.heap.size) (n := 2) (l := [((h, 1, v, 9) : Ev), ((h, 2, v, 9) : Ev)]) hx6 rfl rfl (Nat.le_refl _) (by decide)
  obtain ⟨p7, c7, w7, hr7, ho7, -, hl7⟩ := app_list evTy ho6 (src := p2) (m := n2) (c' := c2) HN2.out (LAt.bel HL2.out (hb5.trans hb6)) (by have := HN6.out; simp; omega) hb6.size (by decide)
  have hb7 : Bel w5 w7 := hl7 w5 hb6 rfl
  -- two
  have hx8 := heap_alloc_new w7 (.cells #[.int .i64 h, .int .i64 2, .int .i64 v, .int .i64 9, .int .i64 h, .int .i64 1, .int .i64 v, .int .i64 9] 26)
  have hb8 : Bel w7 (w7.alloc (.cells #[.int .i64 h, .int .i64 2, .int .i64 v, .int .i64 9, .int .i64 h, .int .i64 1, .int .i64 v, .int .i64 9] 26)) := (Bel.refl _).alloc _ _
  have ho8 := ERow.made evTy (base := w7.heap.size) (n := 2) (l := [((h, 2, v, 9) : Ev), ((h, 1, v, 9) : Ev)]) hx8 rfl rfl (Nat.le_refl _) (by decide)
  obtain ⟨s9, w9, hr9, ho9, -, hl9, -⟩ := push_one (s := ⟨some ⟨w7.heap.size, 0, none⟩, 2, 2⟩) evTy ho8 (x := ((z, 1, v, 9 * y) : Ev)) (cs := #[.int .i64 z, .int .i64 1, .int .i64 v, .int .i64 (9 * y)]) rfl (c := 1) (by simp) hb8.size
  have hb9 : Bel w7 w9 := hl9 w7 hb8 rfl
  rw [World.size_alloc] at hr9
  obtain ⟨p5, n5, c5⟩ := s5
  obtain ⟨p9, n9, c9⟩ := s9
  have HR3 := Lib.hid hr3
  have HR5 : Hid ((Builtin.append_ #[22, 22] 22 #[.slice p3 n2 c3, .slice (some ⟨w3.heap.size, 0, none⟩) 1 1]).run Try.prog (w3.alloc (.cells #[.int .i64 h, .int .i64 1, .int .i64 v, .int .i64 7] 26)) = .ok (.slice p5 n5 c5) w5) := Lib.hid hr5
  have HR7 := Lib.hid hr7
  have HR9 : Hid ((Builtin.append_ #[22, 22] 22 #[.slice (some ⟨w7.heap.size, 0, none⟩) 2 2, .slice (some ⟨w7.heap.size + 1, 0, none⟩) 1 1]).run Try.prog ((w7.alloc (.cells #[.int .i64 h, .int .i64 2, .int .i64 v, .int .i64 9, .int .i64 h, .int .i64 1, .int .i64 v, .int .i64 9] 26)).alloc (.cells #[.int .i64 z, .int .i64 1, .int .i64 v, .int .i64 (9 * y)] 26)) = .ok (.slice p9 n9 c9) w9) := Lib.hid hr9
  have HA1 : Hid (LAt w9 p5 (l ++ [((h, 1, v, 7) : Ev)])) := Lib.hid (LAt.bel (ERow.lat (s := ⟨p5, n5, c5⟩) ho5) (hb7.trans hb9))
  have HA1n : Hid ((l ++ [((h, 1, v, 7) : Ev)]).length = n5) := Lib.hid (ERow.n (s := ⟨p5, n5, c5⟩) ho5).symm
  have HA1c : Hid (n5 ≤ c5) := Lib.hid (ERow.c (s := ⟨p5, n5, c5⟩) ho5)
  have HA1m : Hid (n5 ≤ 5000) := Lib.hid (by have h1 := HA1n.out; rw [List.length_append, HN2.out, List.length_singleton] at h1; have := HN6.out; omega)
  have HA2 : Hid (LAt w9 p7 (((h, 1, v, 9) : Ev) :: ((h, 2, v, 9) : Ev) :: l)) := Lib.hid (LAt.bel (ERow.lat (s := ⟨p7, 2 + n2, c7⟩) ho7) hb9)
  have HA2n : Hid ((((h, 1, v, 9) : Ev) :: ((h, 2, v, 9) : Ev) :: l).length = 2 + n2) := Lib.hid (by rw [List.length_cons, List.length_cons, HN2.out]; omega)
  have HA2c : Hid (2 + n2 ≤ c7) := Lib.hid (ERow.c (s := ⟨p7, 2 + n2, c7⟩) ho7)
  have HA2m : Hid (2 + n2 ≤ 5000) := Lib.hid (by have := HN6.out; omega)
  have HA3 : Hid (LAt w9 p9 ([((h, 2, v, 9) : Ev), ((h, 1, v, 9) : Ev)] ++ [((z, 1, v, 9 * y) : Ev)])) := Lib.hid (ERow.lat (s := ⟨p9, n9, c9⟩) ho9)
  have HA3n : Hid (([((h, 2, v, 9) : Ev), ((h, 1, v, 9) : Ev)] ++ [((z, 1, v, 9 * y) : Ev)]).length = n9) := Lib.hid (ERow.n (s := ⟨p9, n9, c9⟩) ho9).symm
  have HA3c : Hid (n9 ≤ c9) := Lib.hid (ERow.c (s := ⟨p9, n9, c9⟩) ho9)
  have HA3m : Hid (n9 ≤ 5000) := Lib.hid (by have h1 := HA3n.out; simp at h1; omega)
  have HB9 : Hid (Bel w w9) := Lib.hid (HWF.out.trans (hb5.trans (hb7.trans hb9)))
  clear hr3 hr5 hr7 hr9 ho3 ho5 ho6 ho7 ho8 ho9 hb3 hb5 hb6 hb7 hb8 hb9 hl5 hl7 hl9 hx6 hx8
  go_upto_region 9 with (first
    | (go_at_call 14; ((with_reducible refine (pick_lit HH.out HAH.out (by decide) _).mono ?_); rintro e wq ⟨rfl, rfl⟩))
    | (go_at_call 14; ((with_reducible refine (pick_lit HV.out HAW.out (by decide) _).mono ?_); rintro e wq ⟨rfl, rfl⟩))
    | (go_at_call 14; ((with_reducible refine (pick_lit HY.out HAN.out (by decide) _).mono ?_); rintro e wq ⟨rfl, rfl⟩))
    | (at_builtin; refine wpList_app rfl (.const (.slice none 0 0)) (.tmp 23) 22 rfl _ _ _ (by rfl) (by rfl) HR3.out ?_)
    | (at_builtin; refine wpList_app rfl (.tmp 24) (.tmp 28) 22 rfl _ _ _ (by rfl) (by rfl) HR5.out ?_)
    | (at_builtin; refine wpList_app rfl (.tmp 37) (.tmp 38) 22 rfl _ _ _ (by rfl) (by rfl) HR7.out ?_)
    | (at_builtin; refine wpList_app rfl (.tmp 46) (.tmp 55) 22 rfl _ _ _ (by rfl) (by rfl) HR9.out ?_))
  clear hw1 hw9 hz hn6
  go_wp2_with fail
  refine (allowed_lit HA1.out HA1n.out HA1c.out HA1m.out HST.out).mono ?_
  rintro e wx ⟨rfl, hbx⟩
  have HBX := Lib.hid hbx
  clear hbx
  go_wp2_with fail
  refine (allowed_lit (LAt.bel HA2.out HBX.out) HA2n.out HA2c.out HA2m.out HEA.out).mono ?_
  rintro e wy ⟨rfl, hby⟩
  have HBY := Lib.hid (HBX.out.trans hby)
  clear hby
  go_wp2_with fail
  refine (allowed_lit (LAt.bel HA3.out HBY.out) HA3n.out HA3c.out HA3m.out HTW.out).mono ?_
  rintro e wz ⟨rfl, hbz⟩
  have HBZ := Lib.hid (HBY.out.trans hbz)
  clear hbz
  go_wp2
  go_ret
  exact ⟨rfl, HB9.out.trans HBZ.out⟩
end Go.Proofs.Ytigefdoejcggpaa
