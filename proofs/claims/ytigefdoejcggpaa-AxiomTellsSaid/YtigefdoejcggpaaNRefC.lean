/- The document's own Holds. -/
import Derived.Test.YtigefdoejcggpaaNRefB
namespace Go.Proofs.Ytigefdoejcggpaa
open Go.RowKit Ax
set_option linter.unusedVariables false
set_option linter.unusedSimpArgs false
/-- what the document asks of the one at this place of an order -/
def hAt (l : List Ev) (o : List Int) (a : Nat) : Prop := (∀ b : Nat, b < a → kp l (o.getD a 0) (o.getD b 0) = false) ∧ ((ev l (o.getD a 0)).2.1 = 1 → (ev l (o.getD a 0)).2.2.2 = val l o (o.getD a 0))
theorem hat_holds {l : List Ev} {o : List Int} (hr : right l = true) (ho : Ordr l o) : (∀ a : Nat, a < o.length → hAt l o a) ↔ Holds l o := by
  have key : Keep l o ↔ ∀ a b : Nat, a < o.length → b < a → kp l (o.getD a 0) (o.getD b 0) = false := by
    rw [keep_pair, List.pairwise_iff_getElem]
    constructor
    · intro h a b ha hb
      have := h b a (by omega) ha hb
      rwa [← getD_of (List.getElem?_eq_getElem ha), ← getD_of (List.getElem?_eq_getElem (show b < o.length by omega))] at this
    · intro h b a hb ha hab
      have := h a b ha hab
      rwa [getD_of (List.getElem?_eq_getElem ha), getD_of (List.getElem?_eq_getElem hb)] at this
  constructor
  · intro h
    have hk : Keep l o := key.2 fun a b ha hb => (h a ha).1 b hb
    refine ⟨hr, ord_ordr.2 ho, fun p k hp => ⟨fun i hi => ?_, fun hl => ?_⟩⟩
    · have ed : o.drop p = k :: o.drop (p + 1) := drop_get hp
      rw [ed] at hi
      exact hk _ k _ (split_at hp) i hi
    · have := (h p (List.getElem?_eq_some_iff.1 hp).1).2
      rw [getD_of hp] at this
      exact this hl
  · intro h a ha
    refine ⟨fun b hb => key.1 (holds_parts.1 h).2.2.1 a b ha hb, fun hl => ?_⟩
    exact (h.2.2 a _ (get_of ha)).2 hl
set_option maxRecDepth 100000 in
set_option maxHeartbeats 4000000 in
theorem rholds_lit {w : World} {p q : Option Addr} {l : List Ev} {o : List Int} {n c m d : Nat} (hl : LAt w p l) (hn : l.length = n) (hmax : n ≤ 5000) (ho : IAt w q o) (hm : o.length = m) (hmm : m ≤ 5000) {r : Bool} (hr : holdsB l o = r) : Calls Try.prog 20 #[.slice p n c, .slice q m d] w (OneB r w) := by
  have HL := Lib.hid hl
  have HN := Lib.hid hn
  have HMX := Lib.hid hmax
  have HO := Lib.hid ho
  have HM := Lib.hid hm
  have HMM := Lib.hid hmm
  have HR := Lib.hid hr
  obtain ⟨a, ha⟩ : ∃ a, right l = a := ⟨_, rfl⟩
  obtain ⟨e, he⟩ : ∃ e, ordB l o = e := ⟨_, rfl⟩
  have HA := Lib.hid ha
  have HE := Lib.hid he
  clear hl hn ho hm hr ha he
  go_enter Try.func20, Try.ntmps20
  go_wp2_with fail
  refine (rright_lit HL.out HN.out HMX.out HA.out).mono ?_
  rintro e1 w2 ⟨rfl, hbz⟩
  have HB1 := Lib.hid hbz
  clear hbz
  go_wp2_with fail
  refine (rord_lit (LAt.bel HL.out HB1.out) HN.out HMX.out (IAt.bel HO.out HB1.out) HM.out HMM.out HE.out).mono ?_
  rintro e2 w3 ⟨rfl, hbz⟩
  have HB1 := Lib.hid (HB1.out.trans hbz)
  clear hbz
  cases a
  · obtain rfl : r = false := by rw [← HR.out]; unfold holdsB; rw [HA.out]; rfl
    go_wp2
    go_ret
    exact ⟨rfl, HB1.out⟩
  cases e
  · obtain rfl : r = false := by rw [← HR.out]; unfold holdsB; rw [HA.out, HE.out]; rfl
    go_wp2
    go_ret
    exact ⟨rfl, HB1.out⟩
  have HOR : Hid (Ordr l o) := Lib.hid (ord_ordr.1 (ord_iff.1 HE.out))
  have HNX : Hid (∀ a : Nat, a < m → ¬ hAt l o a → r = false) := Lib.hid (fun a ha hna => by
    rw [← HR.out]
    exact Bool.eq_false_iff.2 fun c => hna ((hat_holds HA.out HOR.out).2 (holds_iff.1 c) a (by have := HM.out; omega)))
  have HFI : Hid ((∀ a : Nat, a < m → hAt l o a) → r = true) := Lib.hid (fun h => by
    rw [← HR.out]
    exact holds_iff.2 ((hat_holds HA.out HOR.out).1 (by rw [HM.out]; exact h)))
  have HP : Hid (∀ x ∈ o, 0 ≤ x ∧ x < (n : Int)) := Lib.hid (fun x hx => by
    have := plc_acc (HOR.out.plc x hx)
    have := HN.out
    omega)
  clear HR
  go_wp2
  go_loopw [7] (fun j wr => ∃ a : Nat, a ≤ m ∧ j = .int .i64 a ∧ Hid (Bel w wr) ∧ Hid (∀ b : Nat, b < a → hAt l o b)) (fun j _ => m - (intOf j).toNat)
  case atStart => exact ⟨0, Nat.zero_le _, rfl, HB1, Lib.hid (fun b hb => by omega)⟩
  case round =>
    obtain ⟨a, ha, rfl, HB, HAT⟩ := hrel
    by_cases hlt : a < m
    · obtain ⟨bo, off, rfl, hb, hc⟩ := IAt.get (EncAt.bel HO.out HB.out) (i0 := a) (by have := HM.out; omega)
      have o0 := hc a (by have := HM.out; omega)
      have hxj := get_of (o := o) (p := a) (by have := HM.out; omega)
      have HXX : Hid (hAt l o a ↔ (∀ b : Nat, b < a → kp l (o.getD a 0) (o.getD b 0) = false) ∧ ((ev l (o.getD a 0)).2.1 = 1 → (ev l (o.getD a 0)).2.2.2 = val l o (o.getD a 0))) := Lib.hid Iff.rfl
      generalize o.getD a 0 = x at o0 hxj HXX
      have HPX := Lib.hid (HOR.out.plc x (List.mem_of_getElem? hxj))
      have hpx := plc_acc HPX.out
      obtain ⟨i, rfl⟩ : ∃ i : Nat, x = i := ⟨x.toNat, by omega⟩
      have HI : Hid (i < n) := Lib.hid (by have := HN.out; omega)
      have hlt2 : (a : Int) < m := by omega
      have HLT := Lib.hid hlt
      clear hc hb hxj hpx
      go_wp2
      clear o0
      go_loopw [9] (fun v w2 => ∃ b : Nat, b ≤ a ∧ v = .int .i64 b ∧ Hid (Bel wr w2) ∧ Hid (∀ b' : Nat, b' < b → kp l i (o.getD b' 0) = false)) (fun v _ => a - (intOf v).toNat)
      case atStart => exact ⟨0, Nat.zero_le _, rfl, Lib.hid (Bel.refl _), Lib.hid (fun b hb => by omega)⟩
      case round =>
        obtain ⟨b, hb, rfl, HB2, HKP⟩ := hrel
        have HB3 := Lib.hid (HB.out.trans HB2.out)
        by_cases hltb : b < a
        · obtain ⟨b5, o5, ep, -, hc⟩ := IAt.get (EncAt.bel HO.out HB3.out) (i0 := b) (by have := HM.out; have := HLT.out; omega)
          have o1 := hc b (by have := HM.out; have := HLT.out; omega)
          injection ep with ep
          injection ep with ep1 ep2
          subst ep1
          subst ep2
          have hyj := get_of (o := o) (p := b) (by have := HM.out; have := HLT.out; omega)
          have HYY : Hid (∀ b' : Nat, b' < b + 1 → b' ≠ b → kp l i (o.getD b' 0) = false) := Lib.hid (fun b' h1 h2 => HKP.out b' (by omega))
          have HNXY : Hid (kp l i (o.getD b 0) = true → ¬ hAt l o a) := Lib.hid (fun h c => by
            have := (HXX.out.1 c).1 b hltb
            rw [h] at this
            cases this)
          have HYE : Hid (kp l i (o.getD b 0) = false → ∀ b' : Nat, b' < b + 1 → kp l i (o.getD b' 0) = false) := Lib.hid (fun h b' h1 => by
            by_cases e : b' = b
            · rw [e]; exact h
            · exact HYY.out b' h1 e)
          generalize o.getD b 0 = y at o1 hyj HNXY HYE
          have HPY := Lib.hid (HOR.out.plc y (List.mem_of_getElem? hyj))
          obtain ⟨s, hs⟩ : ∃ s, kp l i y = s := ⟨_, rfl⟩
          have HS := Lib.hid hs
          have HKV : Hid (keepsV l i y = s) := Lib.hid (by unfold keepsV; rw [HA.out, HPX.out, HPY.out, hs]; rfl)
          have hltb2 : (b : Int) < a := by omega
          have hltb3 : (b : Int) < m := by have := HLT.out; omega
          clear hc hyj hs
          go_wp2_with fail
          refine (rkeeps_lit (LAt.bel HL.out HB3.out) HN.out HMX.out HKV.out).mono ?_
          rintro e3 w4 ⟨rfl, hbz⟩
          have HB4 := Lib.hid hbz
          clear hbz
          cases s
          · go_wp2
            exact ⟨⟨b + 1, by omega, by go_num, Lib.hid (HB2.out.trans HB4.out), Lib.hid (HYE.out HS.out)⟩, by simp [intOf]; omega⟩
          · obtain rfl : r = false := HNX.out a HLT.out (HNXY.out HS.out)
            go_wp2
            go_ret
            exact ⟨rfl, HB3.out.trans HB4.out⟩
        · obtain rfl : b = a := by omega
          obtain ⟨b9, ol, rfl, hbl, hcl⟩ := LAt.get (LAt.bel HL.out HB3.out) (i0 := i) (by have := HN.out; have := HI.out; omega)
          obtain ⟨-, c1, -, c3⟩ := hcl i (by have := HN.out; have := HI.out; omega)
          have hi2 : (i : Int) < n := by have := HI.out; omega
          have HHA : Hid (((ev l i).2.1 = 1 → (ev l i).2.2.2 = val l o i) → ∀ a' : Nat, a' < b + 1 → hAt l o a') := Lib.hid (fun h a' h1 => by
            by_cases e : a' = b
            · rw [e]; exact HXX.out.2 ⟨HKP.out, h⟩
            · exact HAT.out a' (by omega))
          have HNA : Hid ((ev l i).2.1 = 1 → (ev l i).2.2.2 ≠ val l o i → r = false) := Lib.hid (fun h1 h2 => HNX.out b HLT.out (fun c => h2 ((HXX.out.1 c).2 h1)))
          generalize (ev l i).2.1 = x1 at c1 HHA HNA
          generalize (ev l i).2.2.2 = x3 at c3 HHA HNA
          have HC1 := Lib.hid c1
          have HC3 := Lib.hid c3
          have HLT9 := Lib.hid hbl
          have HLL := Lib.hid (LAt.bel HL.out HB3.out)
          have HOO := Lib.hid (IAt.bel HO.out HB3.out)
          obtain ⟨v, hv⟩ : ∃ v, val l o i = v := ⟨_, rfl⟩
          rw [hv] at HHA HNA
          have HV := Lib.hid hv
          clear hcl hbl c1 c3 hv
          have HKEEP : Hid (∀ w', Bel wr w' → w'.cell? ⟨b9, ol + i * 4 + 1, none⟩ = some (.int .i64 x1) ∧ w'.cell? ⟨b9, ol + i * 4 + 3, none⟩ = some (.int .i64 x3)) := Lib.hid (fun w' h => ⟨(h.cell (p := ⟨b9, _, none⟩) HLT9.out).trans HC1.out, (h.cell (p := ⟨b9, _, none⟩) HLT9.out).trans HC3.out⟩)
          have HBC : Hid (Bel wr wr.drew) := Lib.hid (Bel.refl wr).drew
          by_cases k1 : x1 = 1
          · have ek : (x1 == 1) = true := by simp [k1]
            by_cases k3 : v = x3
            · have e3 : (v != x3) = false := by simp [k3]
              have HH := Lib.hid (HHA.out (fun _ => k3.symm))
              clear k1 k3
              go_upto_region 15 with (fail)
              refine wp_region_held_drew (S := (fun w' => w'.cell? ⟨b9, ol + i * 4 + 1, none⟩ = some (.int .i64 x1) ∧ w'.cell? ⟨b9, ol + i * 4 + 3, none⟩ = some (.int .i64 x3))) (by kernel_rfl) (HKEEP.out _ ((Bel.refl wr).drew)) (fun hS0 => ?_)
              refine takeD 45 (i := 0) (v := ?v1) rfl rfl (by kernel_rfl) (by kernel_rfl) (by kernel_rfl) (fun _ _ _ h => h) (by kernel_rfl) ?hy1 hS0 ?rest1
              case hy1 => (intro w0 hSw; obtain ⟨s0, s1⟩ := hSw; first | (go_simp; done) | (go_simp; with_reducible rfl))
              simp only [List.setIfInBounds_toArray, List.set_cons_zero, List.set_cons_succ]
              refine takeD 46 (i := 1) (v := ?v2) rfl rfl (by kernel_rfl) (by kernel_rfl) (by kernel_rfl) (fun _ _ _ h => h) (by kernel_rfl) ?hy2 hS0 ?rest2
              case hy2 => (intro w0 hSw; obtain ⟨s0, s1⟩ := hSw; first | (go_simp; done) | (go_simp; with_reducible rfl))
              simp only [List.setIfInBounds_toArray, List.set_cons_zero, List.set_cons_succ]
              refine takeD 47 (i := 2) (v := ?v3) rfl rfl (by kernel_rfl) (by kernel_rfl) (by kernel_rfl) (fun _ _ _ h => h) (by kernel_rfl) ?hy3 hS0 ?rest3
              case hy3 => (intro w0 hSw; obtain ⟨s0, s1⟩ := hSw; first | (go_simp; done) | (go_simp; with_reducible rfl))
              simp only [List.setIfInBounds_toArray, List.set_cons_zero, List.set_cons_succ]
              refine takeD 48 (i := 3) (v := ?v4) rfl rfl (by kernel_rfl) (by kernel_rfl) (by kernel_rfl) (fun _ _ _ h => h) (by kernel_rfl) ?hy4 hS0 ?rest4
              case hy4 => (intro w0 hSw; obtain ⟨s0, s1⟩ := hSw; first | (go_simp; done) | (go_simp; with_reducible rfl))
              simp only [List.setIfInBounds_toArray, List.set_cons_zero, List.set_cons_succ]
              refine takeD 49 (i := 4) (v := ?v5) rfl rfl (by kernel_rfl) (by kernel_rfl) (by kernel_rfl) (fun _ _ _ h => h) (by kernel_rfl) ?hy5 hS0 ?rest5
              case hy5 => (intro w0 hSw; obtain ⟨s0, s1⟩ := hSw; first | (go_simp; done) | (go_simp; with_reducible rfl))
              simp only [List.setIfInBounds_toArray, List.set_cons_zero, List.set_cons_succ]
              refine takeD 50 (i := 5) (v := ?v6) rfl rfl (by kernel_rfl) (by kernel_rfl) (by kernel_rfl) (fun _ _ _ h => h) (by kernel_rfl) ?hy6 hS0 ?rest6
              case hy6 => (intro w0 hSw; obtain ⟨s0, s1⟩ := hSw; first | (go_simp; done) | (go_simp; with_reducible rfl))
              simp only [List.setIfInBounds_toArray, List.set_cons_zero, List.set_cons_succ]
              refine takeD 51 (i := 6) (v := ?v7) rfl rfl (by kernel_rfl) (by kernel_rfl) (by kernel_rfl) (fun _ _ _ h => h) (by kernel_rfl) ?hy7 hS0 ?rest7
              case hy7 => (intro w0 hSw; obtain ⟨s0, s1⟩ := hSw; first | (go_simp; done) | (go_simp; with_reducible rfl))
              simp only [List.setIfInBounds_toArray, List.set_cons_zero, List.set_cons_succ]
              refine takeD 52 (i := 7) (v := ?v8) rfl rfl (by kernel_rfl) (by kernel_rfl) (by kernel_rfl) (fun _ _ _ h => h) (by kernel_rfl) ?hy8 hS0 ?rest8
              case hy8 => (intro w0 hSw; obtain ⟨s0, s1⟩ := hSw; first | (go_simp; done) | (go_simp; with_reducible rfl))
              simp only [List.setIfInBounds_toArray, List.set_cons_zero, List.set_cons_succ]
              refine takeD 53 (i := 8) (v := ?v9) rfl rfl (by kernel_rfl) (by kernel_rfl) (by kernel_rfl) (fun _ _ _ h => h) (by kernel_rfl) ?hy9 hS0 ?rest9
              case hy9 => (intro w0 hSw; obtain ⟨s0, s1⟩ := hSw; first | (go_simp; done) | (go_simp; with_reducible rfl))
              simp only [List.setIfInBounds_toArray, List.set_cons_zero, List.set_cons_succ]
              refine takeD 54 (i := 9) (v := ?v10) rfl rfl (by kernel_rfl) (by kernel_rfl) (by kernel_rfl) (fun _ _ _ h => h) (by kernel_rfl) ?hy10 hS0 ?rest10
              case hy10 => (intro w0 hSw; obtain ⟨s0, s1⟩ := hSw; first | (go_simp; done) | (go_simp; with_reducible rfl))
              simp only [List.setIfInBounds_toArray, List.set_cons_zero, List.set_cons_succ]
              refine takeD 56 (i := 11) (v := ?v11) rfl rfl (by kernel_rfl) (by kernel_rfl) (by kernel_rfl) (fun _ _ _ h => h) (by kernel_rfl) ?hy11 hS0 ?rest11
              case hy11 => (intro w0 hSw; obtain ⟨s0, s1⟩ := hSw; first | (go_simp; done) | (go_simp; with_reducible rfl))
              simp only [List.setIfInBounds_toArray, List.set_cons_zero, List.set_cons_succ]
              refine takeD 57 (i := 12) (v := ?v12) rfl rfl (by kernel_rfl) (by kernel_rfl) (by kernel_rfl) (fun _ _ _ h => h) (by kernel_rfl) ?hy12 hS0 ?rest12
              case hy12 => (intro w0 hSw; obtain ⟨s0, s1⟩ := hSw; first | (go_simp; done) | (go_simp; with_reducible rfl))
              simp only [List.setIfInBounds_toArray, List.set_cons_zero, List.set_cons_succ]
              refine takeD 58 (i := 13) (v := ?v13) rfl rfl (by kernel_rfl) (by kernel_rfl) (by kernel_rfl) (fun _ _ _ h => h) (by kernel_rfl) ?hy13 hS0 ?rest13
              case hy13 => (intro w0 hSw; obtain ⟨s0, s1⟩ := hSw; first | (go_simp; done) | (go_simp; with_reducible rfl))
              simp only [List.setIfInBounds_toArray, List.set_cons_zero, List.set_cons_succ]
              refine takeD 59 (i := 14) (v := ?v14) rfl rfl (by kernel_rfl) (by kernel_rfl) (by kernel_rfl) (fun _ _ _ h => h) (by kernel_rfl) ?hy14 hS0 ?rest14
              case hy14 => (intro w0 hSw; obtain ⟨s0, s1⟩ := hSw; first | (go_simp; done) | (go_simp; with_reducible rfl))
              simp only [List.setIfInBounds_toArray, List.set_cons_zero, List.set_cons_succ]
              refine takeD 60 (i := 15) (v := ?v15) rfl rfl (by kernel_rfl) (by kernel_rfl) (by kernel_rfl) (fun _ _ _ h => h) (by kernel_rfl) ?hy15 hS0 ?rest15
              case hy15 => (intro w0 hSw; obtain ⟨s0, s1⟩ := hSw; first | (go_simp; done) | (go_simp; with_reducible rfl))
              simp only [List.setIfInBounds_toArray, List.set_cons_zero, List.set_cons_succ]
              refine onlyD 55 (i := 10) rfl rfl (by kernel_rfl) (by kernel_rfl) (fun K hK => ?_)
              go_simp
              go_at_call 31
              refine (rvalue_lit (LAt.bel HLL.out ((Bel.refl wr).drew)) HN.out HMX.out (IAt.bel HOO.out ((Bel.refl wr).drew)) HM.out HMM.out HP.out HI.out HV.out).mono ?_
              rintro e whb11 ⟨rfl, hb11⟩
              have hS1 := HKEEP.out _ (((Bel.refl wr).drew).trans hb11)
              refine hK.out _ _ hS1 (fun _ => ?_)
              clear hK K
              simp only [List.setIfInBounds_toArray, List.set_cons_zero, List.set_cons_succ]
              refine takeD 61 (i := 16) (v := ?v16) rfl rfl (by kernel_rfl) (by kernel_rfl) (by kernel_rfl) (fun _ _ _ h => h) (by kernel_rfl) ?hy16 hS1 ?rest16
              case hy16 => (intro w0 hSw; obtain ⟨s0, s1⟩ := hSw; first | (go_simp; done) | (go_simp; with_reducible rfl))
              simp only [List.setIfInBounds_toArray, List.set_cons_zero, List.set_cons_succ]
              refine takeD 62 (i := 17) (v := ?v17) rfl rfl (by kernel_rfl) (by kernel_rfl) (by kernel_rfl) (fun _ _ _ h => h) (by kernel_rfl) ?hy17 hS1 ?rest17
              case hy17 => (intro w0 hSw; obtain ⟨s0, s1⟩ := hSw; first | (go_simp; done) | (go_simp; with_reducible rfl))
              simp only [List.setIfInBounds_toArray, List.set_cons_zero, List.set_cons_succ]
              refine wpAnyH_done (by kernel_rfl) ?_ _
              have HBC := Lib.hid (((Bel.refl wr).drew).trans hb11)
              clear hb11 hS0 hS1
              go_wp2
              exact ⟨⟨b + 1, by have := HLT.out; omega, by go_num, Lib.hid (HB3.out.trans HBC.out), HH⟩, by have := HLT.out; simp [intOf]; omega⟩
            · have e3 : (v != x3) = true := by simp [k3]
              obtain rfl : r = false := HNA.out k1 (fun c => k3 c.symm)
              clear k1 k3
              go_upto_region 15 with (fail)
              refine wp_region_held_drew (S := (fun w' => w'.cell? ⟨b9, ol + i * 4 + 1, none⟩ = some (.int .i64 x1) ∧ w'.cell? ⟨b9, ol + i * 4 + 3, none⟩ = some (.int .i64 x3))) (by kernel_rfl) (HKEEP.out _ ((Bel.refl wr).drew)) (fun hS0 => ?_)
              refine takeD 45 (i := 0) (v := ?v18) rfl rfl (by kernel_rfl) (by kernel_rfl) (by kernel_rfl) (fun _ _ _ h => h) (by kernel_rfl) ?hy18 hS0 ?rest18
              case hy18 => (intro w0 hSw; obtain ⟨s0, s1⟩ := hSw; first | (go_simp; done) | (go_simp; with_reducible rfl))
              simp only [List.setIfInBounds_toArray, List.set_cons_zero, List.set_cons_succ]
              refine takeD 46 (i := 1) (v := ?v19) rfl rfl (by kernel_rfl) (by kernel_rfl) (by kernel_rfl) (fun _ _ _ h => h) (by kernel_rfl) ?hy19 hS0 ?rest19
              case hy19 => (intro w0 hSw; obtain ⟨s0, s1⟩ := hSw; first | (go_simp; done) | (go_simp; with_reducible rfl))
              simp only [List.setIfInBounds_toArray, List.set_cons_zero, List.set_cons_succ]
              refine takeD 47 (i := 2) (v := ?v20) rfl rfl (by kernel_rfl) (by kernel_rfl) (by kernel_rfl) (fun _ _ _ h => h) (by kernel_rfl) ?hy20 hS0 ?rest20
              case hy20 => (intro w0 hSw; obtain ⟨s0, s1⟩ := hSw; first | (go_simp; done) | (go_simp; with_reducible rfl))
              simp only [List.setIfInBounds_toArray, List.set_cons_zero, List.set_cons_succ]
              refine takeD 48 (i := 3) (v := ?v21) rfl rfl (by kernel_rfl) (by kernel_rfl) (by kernel_rfl) (fun _ _ _ h => h) (by kernel_rfl) ?hy21 hS0 ?rest21
              case hy21 => (intro w0 hSw; obtain ⟨s0, s1⟩ := hSw; first | (go_simp; done) | (go_simp; with_reducible rfl))
              simp only [List.setIfInBounds_toArray, List.set_cons_zero, List.set_cons_succ]
              refine takeD 49 (i := 4) (v := ?v22) rfl rfl (by kernel_rfl) (by kernel_rfl) (by kernel_rfl) (fun _ _ _ h => h) (by kernel_rfl) ?hy22 hS0 ?rest22
              case hy22 => (intro w0 hSw; obtain ⟨s0, s1⟩ := hSw; first | (go_simp; done) | (go_simp; with_reducible rfl))
              simp only [List.setIfInBounds_toArray, List.set_cons_zero, List.set_cons_succ]
              refine takeD 50 (i := 5) (v := ?v23) rfl rfl (by kernel_rfl) (by kernel_rfl) (by kernel_rfl) (fun _ _ _ h => h) (by kernel_rfl) ?hy23 hS0 ?rest23
              case hy23 => (intro w0 hSw; obtain ⟨s0, s1⟩ := hSw; first | (go_simp; done) | (go_simp; with_reducible rfl))
              simp only [List.setIfInBounds_toArray, List.set_cons_zero, List.set_cons_succ]
              refine takeD 51 (i := 6) (v := ?v24) rfl rfl (by kernel_rfl) (by kernel_rfl) (by kernel_rfl) (fun _ _ _ h => h) (by kernel_rfl) ?hy24 hS0 ?rest24
              case hy24 => (intro w0 hSw; obtain ⟨s0, s1⟩ := hSw; first | (go_simp; done) | (go_simp; with_reducible rfl))
              simp only [List.setIfInBounds_toArray, List.set_cons_zero, List.set_cons_succ]
              refine takeD 52 (i := 7) (v := ?v25) rfl rfl (by kernel_rfl) (by kernel_rfl) (by kernel_rfl) (fun _ _ _ h => h) (by kernel_rfl) ?hy25 hS0 ?rest25
              case hy25 => (intro w0 hSw; obtain ⟨s0, s1⟩ := hSw; first | (go_simp; done) | (go_simp; with_reducible rfl))
              simp only [List.setIfInBounds_toArray, List.set_cons_zero, List.set_cons_succ]
              refine takeD 53 (i := 8) (v := ?v26) rfl rfl (by kernel_rfl) (by kernel_rfl) (by kernel_rfl) (fun _ _ _ h => h) (by kernel_rfl) ?hy26 hS0 ?rest26
              case hy26 => (intro w0 hSw; obtain ⟨s0, s1⟩ := hSw; first | (go_simp; done) | (go_simp; with_reducible rfl))
              simp only [List.setIfInBounds_toArray, List.set_cons_zero, List.set_cons_succ]
              refine takeD 54 (i := 9) (v := ?v27) rfl rfl (by kernel_rfl) (by kernel_rfl) (by kernel_rfl) (fun _ _ _ h => h) (by kernel_rfl) ?hy27 hS0 ?rest27
              case hy27 => (intro w0 hSw; obtain ⟨s0, s1⟩ := hSw; first | (go_simp; done) | (go_simp; with_reducible rfl))
              simp only [List.setIfInBounds_toArray, List.set_cons_zero, List.set_cons_succ]
              refine takeD 56 (i := 11) (v := ?v28) rfl rfl (by kernel_rfl) (by kernel_rfl) (by kernel_rfl) (fun _ _ _ h => h) (by kernel_rfl) ?hy28 hS0 ?rest28
              case hy28 => (intro w0 hSw; obtain ⟨s0, s1⟩ := hSw; first | (go_simp; done) | (go_simp; with_reducible rfl))
              simp only [List.setIfInBounds_toArray, List.set_cons_zero, List.set_cons_succ]
              refine takeD 57 (i := 12) (v := ?v29) rfl rfl (by kernel_rfl) (by kernel_rfl) (by kernel_rfl) (fun _ _ _ h => h) (by kernel_rfl) ?hy29 hS0 ?rest29
              case hy29 => (intro w0 hSw; obtain ⟨s0, s1⟩ := hSw; first | (go_simp; done) | (go_simp; with_reducible rfl))
              simp only [List.setIfInBounds_toArray, List.set_cons_zero, List.set_cons_succ]
              refine takeD 58 (i := 13) (v := ?v30) rfl rfl (by kernel_rfl) (by kernel_rfl) (by kernel_rfl) (fun _ _ _ h => h) (by kernel_rfl) ?hy30 hS0 ?rest30
              case hy30 => (intro w0 hSw; obtain ⟨s0, s1⟩ := hSw; first | (go_simp; done) | (go_simp; with_reducible rfl))
              simp only [List.setIfInBounds_toArray, List.set_cons_zero, List.set_cons_succ]
              refine takeD 59 (i := 14) (v := ?v31) rfl rfl (by kernel_rfl) (by kernel_rfl) (by kernel_rfl) (fun _ _ _ h => h) (by kernel_rfl) ?hy31 hS0 ?rest31
              case hy31 => (intro w0 hSw; obtain ⟨s0, s1⟩ := hSw; first | (go_simp; done) | (go_simp; with_reducible rfl))
              simp only [List.setIfInBounds_toArray, List.set_cons_zero, List.set_cons_succ]
              refine takeD 60 (i := 15) (v := ?v32) rfl rfl (by kernel_rfl) (by kernel_rfl) (by kernel_rfl) (fun _ _ _ h => h) (by kernel_rfl) ?hy32 hS0 ?rest32
              case hy32 => (intro w0 hSw; obtain ⟨s0, s1⟩ := hSw; first | (go_simp; done) | (go_simp; with_reducible rfl))
              simp only [List.setIfInBounds_toArray, List.set_cons_zero, List.set_cons_succ]
              refine onlyD 55 (i := 10) rfl rfl (by kernel_rfl) (by kernel_rfl) (fun K hK => ?_)
              go_simp
              go_at_call 31
              refine (rvalue_lit (LAt.bel HLL.out ((Bel.refl wr).drew)) HN.out HMX.out (IAt.bel HOO.out ((Bel.refl wr).drew)) HM.out HMM.out HP.out HI.out HV.out).mono ?_
              rintro e whb11 ⟨rfl, hb11⟩
              have hS1 := HKEEP.out _ (((Bel.refl wr).drew).trans hb11)
              refine hK.out _ _ hS1 (fun _ => ?_)
              clear hK K
              simp only [List.setIfInBounds_toArray, List.set_cons_zero, List.set_cons_succ]
              refine takeD 61 (i := 16) (v := ?v33) rfl rfl (by kernel_rfl) (by kernel_rfl) (by kernel_rfl) (fun _ _ _ h => h) (by kernel_rfl) ?hy33 hS1 ?rest33
              case hy33 => (intro w0 hSw; obtain ⟨s0, s1⟩ := hSw; first | (go_simp; done) | (go_simp; with_reducible rfl))
              simp only [List.setIfInBounds_toArray, List.set_cons_zero, List.set_cons_succ]
              refine takeD 62 (i := 17) (v := ?v34) rfl rfl (by kernel_rfl) (by kernel_rfl) (by kernel_rfl) (fun _ _ _ h => h) (by kernel_rfl) ?hy34 hS1 ?rest34
              case hy34 => (intro w0 hSw; obtain ⟨s0, s1⟩ := hSw; first | (go_simp; done) | (go_simp; with_reducible rfl))
              simp only [List.setIfInBounds_toArray, List.set_cons_zero, List.set_cons_succ]
              refine wpAnyH_done (by kernel_rfl) ?_ _
              have HBC := Lib.hid (((Bel.refl wr).drew).trans hb11)
              clear hb11 hS0 hS1
              go_wp2
              go_ret
              exact ⟨rfl, HB3.out.trans HBC.out⟩
          · have ek : (x1 == 1) = false := by simp [k1]
            have HH := Lib.hid (HHA.out (fun c => absurd c k1))
            clear k1
            go_upto_region 15 with (fail)
            refine wp_region_held_drew (S := (fun w' => w'.cell? ⟨b9, ol + i * 4 + 1, none⟩ = some (.int .i64 x1) ∧ w'.cell? ⟨b9, ol + i * 4 + 3, none⟩ = some (.int .i64 x3))) (by kernel_rfl) (HKEEP.out _ ((Bel.refl wr).drew)) (fun hS0 => ?_)
            refine takeD 45 (i := 0) (v := ?v35) rfl rfl (by kernel_rfl) (by kernel_rfl) (by kernel_rfl) (fun _ _ _ h => h) (by kernel_rfl) ?hy35 hS0 ?rest35
            case hy35 => (intro w0 hSw; obtain ⟨s0, s1⟩ := hSw; first | (go_simp; done) | (go_simp; with_reducible rfl))
            simp only [List.setIfInBounds_toArray, List.set_cons_zero, List.set_cons_succ]
            refine takeD 46 (i := 1) (v := ?v36) rfl rfl (by kernel_rfl) (by kernel_rfl) (by kernel_rfl) (fun _ _ _ h => h) (by kernel_rfl) ?hy36 hS0 ?rest36
            case hy36 => (intro w0 hSw; obtain ⟨s0, s1⟩ := hSw; first | (go_simp; done) | (go_simp; with_reducible rfl))
            simp only [List.setIfInBounds_toArray, List.set_cons_zero, List.set_cons_succ]
            refine takeD 47 (i := 2) (v := ?v37) rfl rfl (by kernel_rfl) (by kernel_rfl) (by kernel_rfl) (fun _ _ _ h => h) (by kernel_rfl) ?hy37 hS0 ?rest37
            case hy37 => (intro w0 hSw; obtain ⟨s0, s1⟩ := hSw; first | (go_simp; done) | (go_simp; with_reducible rfl))
            simp only [List.setIfInBounds_toArray, List.set_cons_zero, List.set_cons_succ]
            refine takeD 48 (i := 3) (v := ?v38) rfl rfl (by kernel_rfl) (by kernel_rfl) (by kernel_rfl) (fun _ _ _ h => h) (by kernel_rfl) ?hy38 hS0 ?rest38
            case hy38 => (intro w0 hSw; obtain ⟨s0, s1⟩ := hSw; first | (go_simp; done) | (go_simp; with_reducible rfl))
            simp only [List.setIfInBounds_toArray, List.set_cons_zero, List.set_cons_succ]
            refine takeD 49 (i := 4) (v := ?v39) rfl rfl (by kernel_rfl) (by kernel_rfl) (by kernel_rfl) (fun _ _ _ h => h) (by kernel_rfl) ?hy39 hS0 ?rest39
            case hy39 => (intro w0 hSw; obtain ⟨s0, s1⟩ := hSw; first | (go_simp; done) | (go_simp; with_reducible rfl))
            simp only [List.setIfInBounds_toArray, List.set_cons_zero, List.set_cons_succ]
            refine takeD 50 (i := 5) (v := ?v40) rfl rfl (by kernel_rfl) (by kernel_rfl) (by kernel_rfl) (fun _ _ _ h => h) (by kernel_rfl) ?hy40 hS0 ?rest40
            case hy40 => (intro w0 hSw; obtain ⟨s0, s1⟩ := hSw; first | (go_simp; done) | (go_simp; with_reducible rfl))
            simp only [List.setIfInBounds_toArray, List.set_cons_zero, List.set_cons_succ]
            refine takeD 51 (i := 6) (v := ?v41) rfl rfl (by kernel_rfl) (by kernel_rfl) (by kernel_rfl) (fun _ _ _ h => h) (by kernel_rfl) ?hy41 hS0 ?rest41
            case hy41 => (intro w0 hSw; obtain ⟨s0, s1⟩ := hSw; first | (go_simp; done) | (go_simp; with_reducible rfl))
            simp only [List.setIfInBounds_toArray, List.set_cons_zero, List.set_cons_succ]
            refine skipD 52 (i := 7) rfl rfl (by kernel_rfl) (by kernel_rfl) (by kernel_rfl) (fun _ _ _ h => h) (by kernel_rfl) hS0 ?_
            simp only [List.setIfInBounds_toArray, List.set_cons_zero, List.set_cons_succ]
            refine skipD 53 (i := 8) rfl rfl (by kernel_rfl) (by kernel_rfl) (by kernel_rfl) (fun _ _ _ h => h) (by kernel_rfl) hS0 ?_
            simp only [List.setIfInBounds_toArray, List.set_cons_zero, List.set_cons_succ]
            refine skipD 54 (i := 9) rfl rfl (by kernel_rfl) (by kernel_rfl) (by kernel_rfl) (fun _ _ _ h => h) (by kernel_rfl) hS0 ?_
            simp only [List.setIfInBounds_toArray, List.set_cons_zero, List.set_cons_succ]
            refine skipD 55 (i := 10) rfl rfl (by kernel_rfl) (by kernel_rfl) (by kernel_rfl) (fun _ _ _ h => h) (by kernel_rfl) hS0 ?_
            simp only [List.setIfInBounds_toArray, List.set_cons_zero, List.set_cons_succ]
            refine skipD 56 (i := 11) rfl rfl (by kernel_rfl) (by kernel_rfl) (by kernel_rfl) (fun _ _ _ h => h) (by kernel_rfl) hS0 ?_
            simp only [List.setIfInBounds_toArray, List.set_cons_zero, List.set_cons_succ]
            refine skipD 57 (i := 12) rfl rfl (by kernel_rfl) (by kernel_rfl) (by kernel_rfl) (fun _ _ _ h => h) (by kernel_rfl) hS0 ?_
            simp only [List.setIfInBounds_toArray, List.set_cons_zero, List.set_cons_succ]
            refine skipD 58 (i := 13) rfl rfl (by kernel_rfl) (by kernel_rfl) (by kernel_rfl) (fun _ _ _ h => h) (by kernel_rfl) hS0 ?_
            simp only [List.setIfInBounds_toArray, List.set_cons_zero, List.set_cons_succ]
            refine skipD 59 (i := 14) rfl rfl (by kernel_rfl) (by kernel_rfl) (by kernel_rfl) (fun _ _ _ h => h) (by kernel_rfl) hS0 ?_
            simp only [List.setIfInBounds_toArray, List.set_cons_zero, List.set_cons_succ]
            refine skipD 60 (i := 15) rfl rfl (by kernel_rfl) (by kernel_rfl) (by kernel_rfl) (fun _ _ _ h => h) (by kernel_rfl) hS0 ?_
            simp only [List.setIfInBounds_toArray, List.set_cons_zero, List.set_cons_succ]
            refine skipD 61 (i := 16) rfl rfl (by kernel_rfl) (by kernel_rfl) (by kernel_rfl) (fun _ _ _ h => h) (by kernel_rfl) hS0 ?_
            simp only [List.setIfInBounds_toArray, List.set_cons_zero, List.set_cons_succ]
            refine takeD 62 (i := 17) (v := ?v42) rfl rfl (by kernel_rfl) (by kernel_rfl) (by kernel_rfl) (fun _ _ _ h => h) (by kernel_rfl) ?hy42 hS0 ?rest42
            case hy42 => (intro w0 hSw; obtain ⟨s0, s1⟩ := hSw; first | (go_simp; done) | (go_simp; with_reducible rfl))
            simp only [List.setIfInBounds_toArray, List.set_cons_zero, List.set_cons_succ]
            refine wpAnyH_done (by kernel_rfl) ?_ _
            have HBC := Lib.hid ((Bel.refl wr).drew)
            clear hS0
            go_wp2
            exact ⟨⟨b + 1, by have := HLT.out; omega, by go_num, Lib.hid (HB3.out.trans HBC.out), HH⟩, by have := HLT.out; simp [intOf]; omega⟩
    · obtain rfl : a = m := by omega
      obtain rfl : r = true := HFI.out HAT.out
      go_wp2
      go_ret
      exact ⟨rfl, HB.out⟩
end Go.Proofs.Ytigefdoejcggpaa
