/- The document's own search, and its Allowed. -/
import Derived.Test.YtigefdoejcggpaaNRefC
import Derived.Test.YtigefdoejcggpaaNDrawn
namespace Go.Proofs.Ytigefdoejcggpaa
open Go.RowKit Ax
set_option linter.unusedVariables false
set_option linter.unusedSimpArgs false
theorem nodup_len {a o : List Int} (ha : a.Nodup) (hs : ∀ x ∈ a, x ∈ o) : a.length ≤ o.length := by
  induction a generalizing o with
  | nil => simp
  | cons y a ih =>
    rw [List.nodup_cons] at ha
    have hy := hs y (List.mem_cons_self ..)
    have h1 := ih (o := o.erase y) ha.2 (fun x hx => (List.mem_erase_of_ne (fun c => ha.1 (by rw [← c]; exact hx))).2 (hs x (List.mem_cons_of_mem _ hx)))
    rw [List.length_erase_of_mem hy] at h1
    have := List.length_pos_of_mem hy
    simp only [List.length_cons]
    omega
theorem plcs_len {l : List Ev} {x : List Int} (h : ∀ y ∈ x, plc l y = true) (h1 : x.Nodup) : x.length ≤ l.length := by
  have h2 : x.length ≤ (plain l).length := nodup_len h1 (fun y hy => mem_plain.2 (h y hy))
  have h3 : (plain l).length ≤ l.length := by
    unfold plain
    exact Nat.le_trans (List.length_filter_le _ _) (by simp)
  omega
theorem holds_plc {l : List Ev} {o : List Int} (h : Holds l o) : Ordr l o := (holds_parts.1 h).2.1
theorem s_free {l : List Ev} {x y : List Int} {i k : Int} (h : Holds l (x ++ i :: y)) (hk : keepsV l k i = true) : k ∈ x := by
  unfold keepsV at hk
  simp only [Bool.and_eq_true] at hk
  obtain ⟨⟨h1, h2, h3⟩, h4⟩ := hk
  obtain ⟨k0, k1, k2⟩ := plc_acc h2
  have hm := (holds_plc h).all k.toNat (by omega) (by rw [Int.toNat_of_nonneg k0]; exact k2)
  rw [Int.toNat_of_nonneg k0] at hm
  rcases List.mem_append.1 hm with h5 | h5
  · exact h5
  · have := (holds_parts.1 h).2.2.1 x i y rfl k h5
    rw [h4] at this
    cases this
theorem s_stop {l : List Ev} {x y : List Int} (ho : ordB l x = true) (h : Holds l (x ++ y)) : Holds l x := by
  cases y with
  | nil => rwa [List.append_nil] at h
  | cons a y =>
    exfalso
    have hO := holds_plc h
    obtain ⟨k0, k1, k2⟩ := plc_acc (hO.plc a (by simp))
    have hm := (ord_ordr.1 (ord_iff.1 ho)).all a.toNat (by omega) (by rw [Int.toNat_of_nonneg k0]; exact k2)
    rw [Int.toNat_of_nonneg k0] at hm
    have h1 := hO.one
    rw [List.nodup_append] at h1
    exact h1.2.2 a hm a (List.mem_cons_self ..) rfl
theorem s_in {l : List Ev} {x y : List Int} {i : Int} (h : Holds l (x ++ i :: y)) : i ∉ x ∧ plc l i = true := by
  refine ⟨fun c => ?_, (holds_plc h).plc i (by simp)⟩
  have h1 := (holds_plc h).one
  rw [List.nodup_append] at h1
  exact h1.2.2 i c i (List.mem_cons_self ..) rfl
def SearchAt (l : List Ev) (n c : Nat) (f : Nat) : Prop := ∀ (w : World) (p q : Option Addr) (x : List Int) (m d : Nat), LAt w p l → IAt w q x → x.length = m → (∀ y ∈ x, plc l y = true) → x.Nodup → n < m + f →
  Calls Try.prog 40 #[.slice p n c, .slice q m d] w fun e w' => ∃ r, e = .returned (.bool r) ∧ (r = true ↔ ∃ y, Holds l (x ++ y)) ∧ Bel w w'
theorem SearchAt.zero {l : List Ev} {n c : Nat} (hn : l.length = n) : SearchAt l n c 0 := fun w p q x m d _ _ hm hp h1 hf => by
  have := plcs_len hp h1
  omega
set_option maxRecDepth 100000 in
set_option maxHeartbeats 4000000 in
theorem SearchAt.succ {l : List Ev} {n c f : Nat} (hr : right l = true) (hn : l.length = n) (IH : SearchAt l n c f) : SearchAt l n c (f + 1) := by
  intro w p q x m d hl hx hm hp h1 hf
  have hn8 : n ≤ 8 := by have := (right_iff.1 hr).1; omega
  have hm8 : m ≤ n := by have := plcs_len hp h1; omega
  obtain ⟨z, hz⟩ : ∃ z, ordB l x = z := ⟨_, rfl⟩
  have HRT := Lib.hid hr
  have HN := Lib.hid hn
  have HIH := Lib.hid IH
  have HL := Lib.hid hl
  have HX := Lib.hid hx
  have HM := Lib.hid hm
  have HP := Lib.hid hp
  have H1 := Lib.hid h1
  have HF := Lib.hid hf
  have HZ := Lib.hid hz
  have HN5 : Hid (n ≤ 5000) := Lib.hid (by omega)
  have HM5 : Hid (m ≤ 5000) := Lib.hid (by omega)
  clear hr hn IH hl hx hm hp h1 hf hz
  go_enter Try.func40, Try.ntmps40
  go_wp2_with fail
  refine (rord_lit HL.out HN.out HN5.out HX.out HM.out HM5.out HZ.out).mono ?_
  rintro e w2 ⟨rfl, hbz⟩
  have HB1 := Lib.hid hbz
  clear hbz
  cases z
  · have HNIL : Hid (¬ Holds l x) := Lib.hid (fun c => by
      have := ord_iff.2 c.2.1
      rw [HZ.out] at this
      cases this)
    go_wp2
    go_loopw [6] (fun v wr => ∃ i : Nat, i ≤ n ∧ v = .int .i64 i ∧ Hid (Bel w wr) ∧ Hid (∀ i' : Nat, i' < i → ¬ ∃ y, Holds l (x ++ (i' : Int) :: y))) (fun v _ => n - (intOf v).toNat)
    case atStart => exact ⟨0, Nat.zero_le _, rfl, HB1, Lib.hid (fun i hi => by omega)⟩
    case round =>
      obtain ⟨i, hi, rfl, HB, HNO⟩ := hrel
      by_cases hlt : i < n
      · have hlt2 : (i : Int) < n := by omega
        have HLT := Lib.hid hlt
        have HNEXT : Hid ((¬ ∃ y, Holds l (x ++ (i : Int) :: y)) → ∀ i' : Nat, i' < i + 1 → ¬ ∃ y, Holds l (x ++ (i' : Int) :: y)) := Lib.hid (fun h i' hi' => by
          by_cases e : i' = i
          · rw [e]; exact h
          · exact HNO.out i' (by omega))
        obtain ⟨u, hu⟩ : ∃ u, plc l (i : Int) = u := ⟨_, rfl⟩
        have HU := Lib.hid hu
        clear hu
        go_wp2_with fail
        refine (rplc_lit (LAt.bel HL.out HB.out) HN.out HU.out).mono ?_
        rintro e w3 ⟨rfl, hbz⟩
        have HB2 := Lib.hid (HB.out.trans hbz)
        clear hbz
        cases u
        · have HG := Lib.hid (HNEXT.out (fun ⟨y, hy⟩ => by have := (s_in hy).2; rw [HU.out] at this; cases this))
          go_wp2
          exact ⟨⟨i + 1, by omega, by go_num, HB2, HG⟩, by simp [intOf]; omega⟩
        go_wp2_with fail
        refine (rplace_lit (IAt.bel HX.out HB2.out) HM.out HM5.out (i : Int)).mono ?_
        rintro e w4 ⟨pos, rfl, hpos, hbz⟩
        have HB3 := Lib.hid (HB2.out.trans hbz)
        clear hbz
        by_cases h0 : 0 ≤ pos
        · have h0' : pos ≥ 0 := h0
          have HG := Lib.hid (HNEXT.out (fun ⟨y, hy⟩ => (s_in hy).1 (List.contains_iff_mem.1 (by rw [← hpos]; exact decide_eq_true h0))))
          clear hpos
          go_wp2
          exact ⟨⟨i + 1, by omega, by go_num, HB3, HG⟩, by simp [intOf]; omega⟩
        have HNI : Hid ((i : Int) ∉ x) := Lib.hid (fun c => by
          rw [List.contains_iff_mem.2 c] at hpos
          exact h0 (of_decide_eq_true hpos))
        have h0' : ¬ pos ≥ 0 := h0
        have h0'' : pos < 0 := by omega
        clear hpos
        go_wp2
        clear h0 h0' h0''
        go_loopw [9, 8] (fun kv fv w5 => ∃ (k : Nat) (fr : Bool), k ≤ i ∧ kv = .int .i64 k ∧ fv = .bool fr ∧ Hid (Bel w w5) ∧ Hid (fr = false → ¬ ∃ y, Holds l (x ++ (i : Int) :: y))) (fun kv _ _ => i - (intOf kv).toNat)
        case atStart => exact ⟨0, true, Nat.zero_le _, rfl, rfl, HB3, Lib.hid (fun c => by cases c)⟩
        case round =>
          obtain ⟨k, fr, hk, rfl, rfl, HB4, HFR⟩ := hrel
          by_cases hltk : k < i
          · have hltk2 : (k : Int) < i := by omega
            obtain ⟨s, hs⟩ : ∃ s, keepsV l k i = s := ⟨_, rfl⟩
            have HS := Lib.hid hs
            clear hs
            go_wp2_with fail
            refine (rkeeps_lit (LAt.bel HL.out HB4.out) HN.out HN5.out HS.out).mono ?_
            rintro e w6 ⟨rfl, hbz⟩
            have HB5 := Lib.hid (HB4.out.trans hbz)
            clear hbz
            cases fr
            · have HFR2 := Lib.hid (HFR.out rfl)
              clear HFR
              go_wp2
              exact ⟨⟨k + 1, false, by omega, by go_num, rfl, HB5, Lib.hid (fun _ => HFR2.out)⟩, by simp [intOf]; omega⟩
            cases s
            · go_wp2
              exact ⟨⟨k + 1, true, by omega, by go_num, rfl, HB5, HFR⟩, by simp [intOf]; omega⟩
            go_wp2_with fail
            refine (rplace_lit (IAt.bel HX.out HB5.out) HM.out HM5.out (k : Int)).mono ?_
            rintro e w7 ⟨pos2, rfl, hpos, hbz⟩
            have HB6 := Lib.hid (HB5.out.trans hbz)
            clear hbz
            by_cases h0 : 0 ≤ pos2
            · have h0' : pos2 ≥ 0 := h0
              clear hpos
              go_wp2
              exact ⟨⟨k + 1, true, by omega, by go_num, by first | rfl | (simp; done) | (simp; omega), HB6, HFR⟩, by simp [intOf]; omega⟩
            · have h0' : ¬ pos2 ≥ 0 := h0
              have h0'' : pos2 < 0 := by omega
              have HNK : Hid (¬ ∃ y, Holds l (x ++ (i : Int) :: y)) := Lib.hid (fun ⟨y, hy⟩ => by
                rw [List.contains_iff_mem.2 (s_free hy HS.out)] at hpos
                exact h0 (of_decide_eq_true hpos))
              clear hpos
              go_wp2
              exact ⟨⟨k + 1, false, by omega, by go_num, by first | rfl | (simp; done) | (simp; omega), HB6, Lib.hid (fun _ => HNK.out)⟩, by simp [intOf]; omega⟩
          · obtain rfl : k = i := by omega
            cases fr
            · have HG := Lib.hid (HNEXT.out (HFR.out rfl))
              go_wp2
              exact ⟨⟨k + 1, by omega, by go_num, HB4, HG⟩, by simp [intOf]; omega⟩
            obtain ⟨v3, w3, hr3, ho3, hb3⟩ := clone_new intTy (w := wr) (src := q) (m := m) (c := d) HM.out (IAt.bel HX.out HB4.out) (by have := HM5.out; omega)
            obtain ⟨p3, c3, e3, -, -⟩ := ERow.form encI_len ho3
            rw [HM.out] at e3
            subst e3
            have HR3 := Lib.hid hr3
            have HO3 := Lib.hid ho3
            have HB9 := Lib.hid hb3
            clear hr3 ho3 hb3
            obtain ⟨⟨p8, n8, c8⟩, w8, hrun, hown, -, hbel, -⟩ := push_one (s := ⟨p3, m, c3⟩) intTy HO3.out (x := (k : Int)) (cs := #[.int .i64 (k : Int)]) rfl (c := 1) (by have := HM5.out; have := HM.out; omega) HB9.out.size
            have HRUN := Lib.hid hrun
            have HO8 := Lib.hid hown
            have HB8 : Hid (Bel wr w8) := Lib.hid (hbel _ HB9.out rfl)
            have HN8 : Hid ((x ++ [(k : Int)]).length = n8) := Lib.hid (ERow.n (s := ⟨p8, n8, c8⟩) hown).symm
            clear hrun hown hbel
            go_wp2_with (first | (at_builtin; refine wpList_app rfl (.const (.slice none 0 0)) (.tmp 58) 23 rfl _ _ _ (by rfl) (by rfl) HR3.out ?_) | (at_builtin; refine wpList_app rfl (.tmp 59) (.tmp 61) 23 rfl _ _ _ (by rfl) (by rfl) HRUN.out ?_))
            refine (HIH.out w8 p p8 (x ++ [(k : Int)]) n8 c8 (LAt.bel HL.out (HB4.out.trans HB8.out)) (ERow.iat (s := ⟨p8, n8, c8⟩) HO8.out) HN8.out (fun y hy => by
              rcases List.mem_append.1 hy with h | h
              · exact HP.out y h
              · rw [List.mem_singleton.1 h]; exact HU.out) (by
              rw [List.nodup_append]
              exact ⟨H1.out, List.nodup_cons.2 ⟨by simp, List.nodup_nil⟩, fun a ha b hb e => by
                rw [List.mem_singleton.1 hb] at e
                subst e
                exact HNI.out ha⟩) (by
              have := HF.out
              have h8 := HN8.out
              have := HM.out
              rw [List.length_append, List.length_singleton] at h8
              omega)).mono ?_
            rintro e wz ⟨fd, rfl, hfd, hbz⟩
            have HFD := Lib.hid hfd
            have HBZ := Lib.hid (HB4.out.trans (HB8.out.trans hbz))
            clear hfd hbz
            cases fd
            · have HG := Lib.hid (HNEXT.out (fun ⟨y, hy⟩ => by have := HFD.out.2 ⟨y, by rw [List.append_assoc]; exact hy⟩; cases this))
              go_wp2
              exact ⟨⟨k + 1, by have := HLT.out; omega, by go_num, HBZ, HG⟩, by have := HLT.out; simp [intOf]; omega⟩
            · go_wp2
              go_ret
              refine ⟨true, rfl, ⟨fun _ => ?_, fun _ => rfl⟩, HBZ.out⟩
              obtain ⟨y, hy⟩ := HFD.out.1 (by trivial)
              rw [List.append_assoc] at hy
              exact ⟨_, hy⟩
      · obtain rfl : i = n := by omega
        go_wp2
        go_ret
        refine ⟨false, rfl, ⟨fun c => (by cases c), fun ⟨y, hy⟩ => ?_⟩, HB.out⟩
        exfalso
        cases y with
        | nil => rw [List.append_nil] at hy; exact HNIL.out hy
        | cons a y =>
          obtain ⟨a0, a1, -⟩ := plc_acc (s_in hy).2
          refine HNO.out a.toNat (by have := HN.out; omega) ⟨y, ?_⟩
          rw [Int.toNat_of_nonneg a0]
          exact hy
  · obtain ⟨h, hh⟩ : ∃ h, holdsB l x = h := ⟨_, rfl⟩
    have HH := Lib.hid hh
    clear hh
    go_wp2_with fail
    refine (rholds_lit (LAt.bel HL.out HB1.out) HN.out HN5.out (IAt.bel HX.out HB1.out) HM.out HM5.out HH.out).mono ?_
    rintro e w3 ⟨rfl, hbz⟩
    have HB2 := Lib.hid (HB1.out.trans hbz)
    clear hbz
    go_wp2
    go_ret
    refine ⟨h, rfl, ?_, HB2.out⟩
    rw [← HH.out, holds_iff]
    exact ⟨fun h => ⟨[], by rwa [List.append_nil]⟩, fun ⟨y, hy⟩ => s_stop HZ.out hy⟩
theorem search_all {l : List Ev} {n c : Nat} (hr : right l = true) (hn : l.length = n) (f : Nat) : SearchAt l n c f := by
  induction f with
  | zero => exact SearchAt.zero hn
  | succ f ih => exact SearchAt.succ hr hn ih
set_option maxRecDepth 100000 in
theorem rallowed_lit {w : World} {p : Option Addr} {l : List Ev} {n c : Nat} (hl : LAt w p l) (hn : l.length = n) (hmax : n ≤ 5000) {r : Bool} (hr : allowed l = r) : Calls Try.prog 24 #[.slice p n c] w (OneB r w) := by
  have HL := Lib.hid hl
  have HN := Lib.hid hn
  have HMX := Lib.hid hmax
  have HR := Lib.hid hr
  obtain ⟨a, ha⟩ : ∃ a, right l = a := ⟨_, rfl⟩
  have HA := Lib.hid ha
  clear hl hn hr ha
  go_enter Try.func24, Try.ntmps24
  go_wp2_with fail
  refine (rright_lit HL.out HN.out HMX.out HA.out).mono ?_
  rintro e w2 ⟨rfl, hbz⟩
  have HB1 := Lib.hid hbz
  clear hbz
  cases a
  · obtain rfl : r = false := by rw [← HR.out]; unfold allowed; rw [HA.out]; rfl
    go_wp2
    go_ret
    exact ⟨rfl, HB1.out⟩
  · go_wp2_with fail
    refine (search_all HA.out HN.out (n + 1) w2 p none [] 0 0 (LAt.bel HL.out HB1.out) (EncAt.nil _ _ _ _) rfl (fun y hy => by cases hy) List.nodup_nil (by omega)).mono ?_
    rintro e w3 ⟨r', rfl, hr', hbz⟩
    have HR2 := Lib.hid hr'
    have HB2 := Lib.hid (HB1.out.trans hbz)
    clear hr' hbz
    obtain rfl : r' = r := by
      rw [← HR.out, Bool.eq_iff_iff, HR2.out, allowed_iff]
      rfl
    go_wp2
    go_ret
    exact ⟨rfl, HB2.out⟩
end Go.Proofs.Ytigefdoejcggpaa
