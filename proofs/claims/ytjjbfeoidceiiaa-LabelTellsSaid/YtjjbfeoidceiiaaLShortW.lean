/- What LabelShort says, in plain words. -/
import Derived.Test.YtjjbfeoidceiiaaLFit
namespace Go.Proofs.Ytjjbfeoidceiiaa
open Go.RowKit Rv Lb
set_option linter.unusedVariables false
theorem fin_far {l : List Itm} {k : Nat} (h : Lb.fin l k = true) : ¬ reach l (Lb.fin l) k := by
  intro hr
  have hle : le (fun j => Lb.fin l j && decide (j ≠ k)) (Lb.fin l) := fun j hj => by
    simp only [Bool.and_eq_true] at hj
    exact hj.1
  have hc : closed l (fun j => Lb.fin l j && decide (j ≠ k)) := by
    intro j hb hj
    by_cases e : j = k
    · subst e
      exact reach_le hle hr
    · have hf : Lb.fin l j = false := by simpa [e] using hj
      exact reach_le hle (fin_closed l j hb hf)
  have := fin_le hc k h
  simp at this
theorem sz_fit {L : List Itm} (h : ∀ x ∈ L, size1 x ≤ 1139) (g : Nat → Bool) (k : Nat) : sz L g k ≤ 1139 := by
  unfold sz
  cases hx : L[k]? with
  | none => simp
  | some x =>
    have := h x (List.mem_of_getElem? hx)
    simp only
    split <;> omega
theorem place_fit {L : List Itm} (h : ∀ x ∈ L, size1 x ≤ 1139) (g : Nat → Bool) (k : Nat) : place L g k ≤ 1139 * k := by
  induction k with
  | zero => exact Nat.le_refl _
  | succ k ih =>
    have := sz_fit h g k
    show place L g k + sz L g k ≤ _
    omega
theorem FitOk.lay {L : List Itm} (h : FitOk L) : layE L = 0 := by
  have h1 := place_fit h.size (Lb.fin L) L.length
  have h2 := h.most
  have h3 : L.all rightX = true := List.all_eq_true.2 fun x hx => (h.right x hx).1
  unfold layE
  rw [if_neg (by omega), if_neg (by rw [h3]; simp), if_neg (by rw [h.ok]; simp), if_neg (by omega)]
theorem FitOk.wf {L : List Itm} (h : FitOk L) : ∀ x ∈ L, Itm.wf x := fun x hx => (h.right x hx).2
theorem FitOk.named {L : List Itm} (h : FitOk L) {k : Nat} {x : Itm} (hx : L[k]? = some x) (h3 : x.kind = 3) : ∃ j, Lb.named L x.name = some j ∧ to L k = j := by
  have hk := (List.getElem?_eq_some_iff.1 hx).1
  have hok := h.ok
  unfold okT at hok
  rw [List.all_eq_true] at hok
  have := hok k (List.mem_range.2 hk)
  simp only [Bool.and_eq_true, Bool.not_eq_true'] at this
  have hl := this.2
  unfold lostAt at hl
  rw [hx] at hl
  simp only [h3, decide_true, Bool.true_and] at hl
  cases hn : Lb.named L x.name with
  | none => rw [hn] at hl; simp at hl
  | some j =>
    refine ⟨j, rfl, ?_⟩
    unfold to
    rw [hx]
    simp only [h3, if_true, hn, Option.getD_some]
theorem FitOk.find {L : List Itm} (h : FitOk L) {k : Nat} {x : Itm} (hx : L[k]? = some x) (h3 : x.kind = 3) : findV L x.name = 4 * (place L (Lb.fin L) (to L k) : Int) := by
  obtain ⟨j, hj, ht⟩ := h.named hx h3
  unfold findV
  rw [if_pos h.lay, hj, ht]
theorem brAt_lt {l : List Itm} {k : Nat} (h : brAt l k = true) : k < l.length := by
  unfold brAt at h
  cases hx : l[k]? with
  | none => rw [hx] at h; cases h
  | some x => exact (List.getElem?_eq_some_iff.1 hx).1
theorem fin_short {l : List Itm} (hpos : 1 ≤ l.length) (h : 4 * (place l (Lb.fin l) l.length : Int) ≤ 4092) (k : Nat) : Lb.fin l k = false := by
  have hle : le none' (Lb.fin l) := fun j hj => by cases hj
  have hc : closed l none' := by
    intro j hb _
    have hj := brAt_lt hb
    have ht := to_lt hpos j hj
    have h1 := place_le (l := l) hle (Nat.zero_le l.length)
    have h2 := place_mono l none' (Nat.le_of_lt hj)
    have h3 := place_mono l none' (Nat.le_of_lt ht)
    have z1 : place l none' 0 = 0 := rfl
    have z2 : place l (Lb.fin l) 0 = 0 := rfl
    unfold reach
    omega
  cases hk : Lb.fin l k with
  | false => rfl
  | true => exact absurd (fin_le hc k hk) (by simp [none'])
theorem FitOk.br {L : List Itm} (h : FitOk L) {k : Nat} {o d a b n m : Int} {s : ByteArray} (hx : L[k]? = some ⟨3, ⟨o, d, a, b, n⟩, s, m⟩) (h3 : o ≠ 3) : brAt L k = true := by
  have hr := (h.right _ (List.mem_of_getElem? hx)).1
  unfold rightX at hr
  rw [if_neg (by simp), if_neg (by simp), if_pos rfl] at hr
  simp only [Bool.and_eq_true] at hr
  have hl := hr.1.2
  unfold leads at hl
  simp only [Bool.and_eq_true, Bool.or_eq_true, decide_eq_true_eq] at hl
  unfold brAt isBr
  rw [hx]
  simp only [decide_true, Bool.true_and]
  rcases hl.1.1 with e | e
  · exact absurd e h3
  · exact e
theorem sz_br3 {L : List Itm} {g : Nat → Bool} {k : Nat} (h : brAt L k = true) : sz L g k = if g k then 2 else 1 := by
  unfold brAt at h
  unfold sz
  cases hx : L[k]? with
  | none => rw [hx] at h; cases h
  | some x =>
    rw [hx] at h
    simp only at h ⊢
    rw [h, size1_br h]
    simp
theorem place_end {L : List Itm} (h : ∀ x ∈ L, size1 x ≤ 1139) (h2 : L.length ≤ 17) (g : Nat → Bool) {k : Nat} (hk : k ≤ L.length) : place L g k ≤ 19363 := by
  have := place_fit h g k
  omega
set_option maxRecDepth 100000 in
set_option maxHeartbeats 8000000 in
theorem short_law (p : Option Addr) (n c : Nat) (raw : List Itm) (w : World) (hn : raw.length = n) (hm : n ≤ 9223372036854775807) (HP : Hid (1 ≤ n → ∃ b o, p = some ⟨b, o, none⟩ ∧ ItemsAt w b o raw)) (HWF : Hid (∀ x ∈ raw, Itm.wf x)) :
    Calls Try.prog 7 #[.slice p n c] w fun e w' => e = .returned (.bool true) ∧ Both w w' := by
  have ex0 : ∀ (x y : Value) (W : World), (Instr.extract (.tuple #[x, y]) 0).run Try.prog W = .ok x W := fun x y W => by kernel_rfl
  have ex1 : ∀ (x y : Value) (W : World), (Instr.extract (.tuple #[x, y]) 1).run Try.prog W = .ok y W := fun x y W => by kernel_rfl
  have HNN := Lib.hid hn
  clear hn
  go_enter Try.func7, Try.ntmps7
  go_upto_region 3 with (first
    | (go_at_call 11; refine (awake_any _).mono ?_; rintro e w1 ⟨rfl, hb1⟩)
    | (go_at_call 12; refine (fit3_any p n c raw _ HNN.out hm (Lib.hid fun h => by obtain ⟨b, o, e, i⟩ := HP.out h; exact ⟨b, o, e, i.both hb1⟩) HWF).mono ?_; rintro e w2 ⟨B, oc, L, rfl, hit, hb2, hok, _⟩))
  have hpos := hok.pos
  have hmost := hok.most
  have HOK := Lib.hid hok
  have HIT := Lib.hid hit
  have HB2 := Lib.hid (hb1.trans hb2)
  have HWL := Lib.hid hok.wf
  clear hok hit hb1 hb2
  go_upto_region 4 with (go_at_call 14; refine (places_any B 0 oc L _ HIT hpos (by omega) HWL).mono ?_; rintro e w3 ⟨hb3, ⟨hne, rfl⟩ | ⟨h0, PB, rfl, hP⟩⟩)
  · exact absurd HOK.out.lay hne
  have HIT3 := Lib.hid (HIT.out.both hb3)
  have HB3 := Lib.hid (HB2.out.trans hb3)
  have HPL := Lib.hid hP
  clear hP h0 hb3 HIT HB2
  have v0 : IntKind.i64.wrap ((L.length : Int) + 1) = (L.length : Int) + 1 := IntWalk.i64_in _ (by constructor <;> omega)
  go_wp2_with fail
  go_loopw [7] (fun i wr => ∃ k : Nat, k ≤ L.length ∧ i = .int .i64 k ∧ Hid (Both w3 wr)) (fun i _ => L.length - (intOf i).toNat)
  case atStart => exact ⟨0, by omega, rfl, Both.refl _⟩
  case round =>
    obtain ⟨k, hk, rfl, HB⟩ := hrel
    by_cases hlt : k < L.length
    · obtain ⟨kd, xo, xd, xa, xb, xn, xm, xs, hx⟩ := items_one (l := L) (k := k) hlt
      obtain ⟨c0, c1, c2, c3, c4, c5, c6, c7⟩ := (HIT3.out.both HB.out).get hx
      rw [Nat.zero_add] at c0 c1 c6
      have HX := Lib.hid hx
      have hk' : (k : Int) < L.length := by omega
      clear c2 c3 c4 c5 c7 hx
      cases h3 : (kd != 3) with
      | true =>
        go_wp2_with fail
        go_roundw
        case rel => exact ⟨k + 1, by omega, by go_num, HB.out⟩
        case measure => simp [intOf]; omega
      | false =>
        obtain rfl : kd = 3 := by simpa using h3
        cases h4 : (xo == 3) with
        | true =>
          go_wp2_with fail
          go_roundw
          case rel => exact ⟨k + 1, by omega, by go_num, HB.out⟩
          case measure => simp [intOf]; omega
        | false =>
          have hbr : brAt L k = true := HOK.out.br HX.out (by simpa using h4)
          have hpk := (HPL.out.both HB.out).2 k _ (sumsTo_get _ _ _ (Nat.le_of_lt hlt))
          have hpk1 := (HPL.out.both HB.out).2 (k + 1) _ (sumsTo_get _ _ _ hlt)
          have hpe := (HPL.out.both HB.out).2 L.length _ (sumsTo_get _ _ _ (Nat.le_refl _))
          rw [Nat.zero_add, sumAt_place _ _ _ (by omega)] at hpk hpk1 hpe
          have hsz : place L (Lb.fin L) (k + 1) = place L (Lb.fin L) k + (if Lb.fin L k then 2 else 1) := by
            show place L (Lb.fin L) k + sz L (Lb.fin L) k = _
            rw [sz_br3 hbr]
          have b1 := place_end HOK.out.size hmost (Lb.fin L) (Nat.le_of_lt hlt)
          have b3 := place_end HOK.out.size hmost (Lb.fin L) (Nat.le_refl _)
          have b4 := place_end HOK.out.size hmost (Lb.fin L) (Nat.le_of_lt (to_lt hpos k hlt))
          have hfd := HOK.out.find HX.out rfl
          have hr : reach L (Lb.fin L) k ↔ -4096 ≤ 4 * (place L (Lb.fin L) (to L k) : Int) - 4 * (place L (Lb.fin L) k : Int) ∧ 4 * (place L (Lb.fin L) (to L k) : Int) - 4 * (place L (Lb.fin L) k : Int) ≤ 4094 := Iff.rfl
          simp only at hfd
          have hfr : (Lb.fin L k = true → ¬ reach L (Lb.fin L) k ∧ ¬ 4 * (place L (Lb.fin L) L.length : Int) ≤ 4092) ∧ (Lb.fin L k = false → reach L (Lb.fin L) k) :=
            ⟨fun h => ⟨fin_far h, fun c => by rw [fin_short hpos c k] at h; cases h⟩, fun h => fin_closed L k hbr h⟩
          generalize place L (Lb.fin L) (to L k) = pt at *
          generalize place L (Lb.fin L) (k + 1) = pk1 at *
          generalize place L (Lb.fin L) L.length = pe at *
          generalize place L (Lb.fin L) k = pk at *
          rw [hr] at hfr
          clear hr
          generalize Lb.fin L k = g at *
          have HFD := Lib.hid hfd
          clear hfd hbr h3
          cases g with
          | true =>
            obtain ⟨hf1, hf2⟩ := hfr.1 rfl
            simp only [if_true] at hsz
            subst hsz
            clear hfr
            obtain ⟨a, ha⟩ : ∃ a : Int, 4 * (pk : Int) = a := ⟨_, rfl⟩
            obtain ⟨a8, ha8⟩ : ∃ a : Int, 4 * ((pk + 2 : Nat) : Int) = a := ⟨_, rfl⟩
            obtain ⟨f, hf⟩ : ∃ a : Int, 4 * (pt : Int) = a := ⟨_, rfl⟩
            obtain ⟨q, hq⟩ : ∃ a : Int, 4 * (pe : Int) = a := ⟨_, rfl⟩
            rw [ha] at hpk hf1
            rw [ha8] at hpk1
            rw [hf] at hf1 HFD
            rw [hq] at hpe hf2
            have v1 : IntKind.i64.wrap (a8 - a) = 8 := by rw [IntWalk.i64_in _ (by constructor <;> omega)]; omega
            obtain ⟨d, hd⟩ : ∃ d : Int, f - a = d := ⟨_, rfl⟩
            have v2 : IntKind.i64.wrap (f - a) = d := by rw [IntWalk.i64_in _ (by constructor <;> omega)]; exact hd
            rw [hd] at hf1
            have hf3 : d < -4096 ∨ 4094 < d := by omega
            have hf4 : ¬ q ≤ 4092 := hf2
            have hf5 : decide (q ≤ 4092) = false := decide_eq_false hf4
            clear hf1 hf2 hd b1 b3 b4
            have HFC : Hid (∀ W, ItemsAt W B 0 L → Calls Try.prog 19 #[.slice (some ⟨B, 0, none⟩) L.length oc, .string xs] W fun e w' => e = .returned (.int .i64 f) ∧ Both W w') := fun W h => by
              have h1 := find_any B 0 oc L xs W (Lib.hid h) hpos (by omega) HWL
              rw [HFD.out] at h1
              exact h1
            have HCE : Hid (∀ W, Both wr W → W.cell? ⟨B, k * 8 + 6, none⟩ = some (.string xs) ∧ W.cell? ⟨PB, k, none⟩ = some (.int .i64 a) ∧ W.cell? ⟨PB, k + 1, none⟩ = some (.int .i64 a8) ∧ W.cell? ⟨PB, L.length, none⟩ = some (.int .i64 q) ∧ ItemsAt W B 0 L ∧ Both w3 W) := fun W h =>
              have hB := (HIT3.out.both HB.out).1
              have hPB := (HPL.out.both HB.out).1
              ⟨(h.cell (p := ⟨B, k * 8 + 6, none⟩) hB).trans c6, (h.cell (p := ⟨PB, k, none⟩) hPB).trans hpk, (h.cell (p := ⟨PB, k + 1, none⟩) hPB).trans hpk1, (h.cell (p := ⟨PB, L.length, none⟩) hPB).trans hpe, (HIT3.out.both HB.out).both h, HB.out.trans h⟩
            clear ha ha8 hf hq c6 hpe
            have hk9 : (k : Int) < (L.length : Int) + 1 := by omega
            have hk8 : (k : Int) + 1 < (L.length : Int) + 1 := by omega
            have hLL : (L.length : Int) < (L.length : Int) + 1 := by omega
            go_upto_region 10 with (fail)
            go_quiet (fail)
            have hb5 : Both wr (wr.drewN nq) := (Both.refl wr).drewN nq
            obtain ⟨e6, ek, ek1, eq, ei, eb⟩ := HCE.out _ hb5
            have HB5 := Lib.hid hb5
            clear hpk hpk1 eb eq ek1 hb5 c0 c1 ei
            generalize wr.drewN nq = W5 at HB5 e6 ek ⊢
            go_upto_region 11 with (fail)
            have HKEEP : Hid (∀ W, Both W5 W → W.cell? ⟨B, k * 8 + 6, none⟩ = some (.string xs) ∧ W.cell? ⟨PB, k, none⟩ = some (.int .i64 a)) := fun W h => ⟨(HCE.out _ (HB5.out.trans h)).1, (HCE.out _ (HB5.out.trans h)).2.1⟩
            go_region_held3 (fun w' => w'.cell? ⟨B, k * 8 + 6, none⟩ = some (.string xs) ∧ w'.cell? ⟨PB, k, none⟩ = some (.int .i64 a))
              (first | exact HKEEP.out _ ((Both.refl _).drew.trans hb6) | exact HKEEP.out _ (Both.refl _).drew)
              ((go_at_call 19; refine (HFC.out _ (HCE.out _ (HB5.out.trans (Both.refl _).drew)).2.2.2.2.1).mono ?_; rintro e w6 ⟨rfl, hb6⟩))
            all_goals
              obtain ⟨e6', ek', ek1', eq', ei', eb'⟩ := HCE.out _ (HB5.out.trans ((Both.refl _).drew.trans hb6))
              have HB6 := Lib.hid (HB5.out.trans ((Both.refl _).drew.trans hb6))
              clear hb6 e6 ek e6' ei' eb' HFC HKEEP
              have HF3 := Lib.hid hf3
              have HLT := Lib.hid hlt
              clear hf3 ek' ek1' hk9 hk8 v1 v2 v0 hk' h4 hlt
              go_upto_region 12 with (fail)
              go_quiet (fail)
              have HB7 := Lib.hid (HB.out.trans (HB6.out.trans ((Both.refl _).drewN nq)))
              clear hf4 hf5 eq'
              rcases HF3.out with h | h
              · have z1 : ¬ -2048 ≤ d := by omega
                have z2 : decide (-2048 ≤ d) = false := decide_eq_false z1
                go_wp2_with fail
                go_roundw
                case rel => exact ⟨k + 1, HLT.out, by go_num, HB7.out⟩
                case measure => simp [intOf]; have := HLT.out; omega
              · have z1 : -2048 ≤ d := by omega
                have z2 : decide (-2048 ≤ d) = true := decide_eq_true z1
                have z3 : ¬ d ≤ 2047 := by omega
                have z4 : decide (d ≤ 2047) = false := decide_eq_false z3
                go_wp2_with fail
                go_roundw
                case rel => exact ⟨k + 1, HLT.out, by go_num, HB7.out⟩
                case measure => simp [intOf]; have := HLT.out; omega
          | false =>
            obtain ⟨hf1, hf2⟩ := hfr.2 rfl
            simp only [Bool.false_eq_true, if_false] at hsz
            subst hsz
            clear hfr
            obtain ⟨a, ha⟩ : ∃ a : Int, 4 * (pk : Int) = a := ⟨_, rfl⟩
            obtain ⟨a8, ha8⟩ : ∃ a : Int, 4 * ((pk + 1 : Nat) : Int) = a := ⟨_, rfl⟩
            obtain ⟨f, hf⟩ : ∃ a : Int, 4 * (pt : Int) = a := ⟨_, rfl⟩
            obtain ⟨q, hq⟩ : ∃ a : Int, 4 * (pe : Int) = a := ⟨_, rfl⟩
            rw [ha] at hpk hf1 hf2
            rw [ha8] at hpk1
            rw [hf] at hf1 hf2 HFD
            rw [hq] at hpe
            have v1 : IntKind.i64.wrap (a8 - a) = 4 := by rw [IntWalk.i64_in _ (by constructor <;> omega)]; omega
            obtain ⟨d, hd⟩ : ∃ d : Int, f - a = d := ⟨_, rfl⟩
            have v2 : IntKind.i64.wrap (f - a) = d := by rw [IntWalk.i64_in _ (by constructor <;> omega)]; exact hd
            rw [hd] at hf1 hf2
            have z1 : ¬ d < -4096 := by omega
            have z2 : decide (d < -4096) = false := decide_eq_false z1
            have z3 : ¬ 4094 < d := by omega
            have z4 : decide (4094 < d) = false := decide_eq_false z3
            clear hf1 hf2 hd b1 b3 b4
            have HFC : Hid (∀ W, ItemsAt W B 0 L → Calls Try.prog 19 #[.slice (some ⟨B, 0, none⟩) L.length oc, .string xs] W fun e w' => e = .returned (.int .i64 f) ∧ Both W w') := fun W h => by
              have h1 := find_any B 0 oc L xs W (Lib.hid h) hpos (by omega) HWL
              rw [HFD.out] at h1
              exact h1
            have HCE : Hid (∀ W, Both wr W → W.cell? ⟨B, k * 8 + 6, none⟩ = some (.string xs) ∧ W.cell? ⟨PB, k, none⟩ = some (.int .i64 a) ∧ W.cell? ⟨PB, k + 1, none⟩ = some (.int .i64 a8) ∧ W.cell? ⟨PB, L.length, none⟩ = some (.int .i64 q) ∧ ItemsAt W B 0 L ∧ Both w3 W) := fun W h =>
              have hB := (HIT3.out.both HB.out).1
              have hPB := (HPL.out.both HB.out).1
              ⟨(h.cell (p := ⟨B, k * 8 + 6, none⟩) hB).trans c6, (h.cell (p := ⟨PB, k, none⟩) hPB).trans hpk, (h.cell (p := ⟨PB, k + 1, none⟩) hPB).trans hpk1, (h.cell (p := ⟨PB, L.length, none⟩) hPB).trans hpe, (HIT3.out.both HB.out).both h, HB.out.trans h⟩
            clear ha ha8 hf hq c6 hpe
            have hk9 : (k : Int) < (L.length : Int) + 1 := by omega
            have hk8 : (k : Int) + 1 < (L.length : Int) + 1 := by omega
            have hLL : (L.length : Int) < (L.length : Int) + 1 := by omega
            go_upto_region 10 with (fail)
            go_quiet (fail)
            have hb5 : Both wr (wr.drewN nq) := (Both.refl wr).drewN nq
            obtain ⟨e6, ek, ek1, eq, ei, eb⟩ := HCE.out _ hb5
            have HB5 := Lib.hid hb5
            clear hpk hpk1 eb eq ek1 hb5 c0 c1 ei
            generalize wr.drewN nq = W5 at HB5 e6 ek ⊢
            go_upto_region 11 with (fail)
            have HKEEP : Hid (∀ W, Both W5 W → W.cell? ⟨B, k * 8 + 6, none⟩ = some (.string xs) ∧ W.cell? ⟨PB, k, none⟩ = some (.int .i64 a)) := fun W h => ⟨(HCE.out _ (HB5.out.trans h)).1, (HCE.out _ (HB5.out.trans h)).2.1⟩
            go_region_held3 (fun w' => w'.cell? ⟨B, k * 8 + 6, none⟩ = some (.string xs) ∧ w'.cell? ⟨PB, k, none⟩ = some (.int .i64 a))
              (first | exact HKEEP.out _ ((Both.refl _).drew.trans hb6) | exact HKEEP.out _ (Both.refl _).drew)
              ((go_at_call 19; refine (HFC.out _ (HCE.out _ (HB5.out.trans (Both.refl _).drew)).2.2.2.2.1).mono ?_; rintro e w6 ⟨rfl, hb6⟩))
            all_goals
              obtain ⟨e6', ek', ek1', eq', ei', eb'⟩ := HCE.out _ (HB5.out.trans ((Both.refl _).drew.trans hb6))
              have HB6 := Lib.hid (HB5.out.trans ((Both.refl _).drew.trans hb6))
              clear hb6 e6 ek e6' ei' eb' HFC HKEEP
              have HLT := Lib.hid hlt
              clear v2 v0 hk' h4 hlt eq' hLL
              go_upto_region 12 with (fail)
              go_quiet (fail)
              have HB7 := Lib.hid (HB.out.trans (HB6.out.trans ((Both.refl _).drewN nq)))
              clear z1 z2 z3 z4 ek' ek1' hk9 hk8 v1
              go_wp2_with fail
              go_roundw
              case rel => exact ⟨k + 1, HLT.out, by go_num, HB7.out⟩
              case measure => simp [intOf]; have := HLT.out; omega
    · obtain rfl : k = L.length := by omega
      go_wp2_with fail
      go_ret
      exact ⟨rfl, HB3.out.trans HB.out⟩
end Go.Proofs.Ytjjbfeoidceiiaa
