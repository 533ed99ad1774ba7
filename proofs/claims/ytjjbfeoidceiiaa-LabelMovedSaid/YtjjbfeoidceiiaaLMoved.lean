/- LabelMoved's walk. -/
import Derived.Test.YtjjbfeoidceiiaaLMovedP
import Derived.Test.YtjjbfeoidceiiaaLMany
namespace Go.Proofs.Ytjjbfeoidceiiaa
open Go.RowKit Rv Lb
set_option linter.unusedVariables false
def insX (i : Ins) : Itm := ⟨1, fit i, ⟨#[]⟩, 0⟩
/-- what the first instructions make -/
def aheadL (raw : List Ins) (k : Nat) : List Itm := (raw.take k).map insX
theorem aheadL_succ {raw : List Ins} {k : Nat} {i : Ins} (h : raw[k]? = some i) : aheadL raw (k + 1) = aheadL raw k ++ [insX i] := by
  obtain ⟨hk, e⟩ := List.getElem?_eq_some_iff.1 h
  unfold aheadL
  rw [List.take_succ_eq_append_getElem hk, List.map_append, e]
  rfl
theorem aheadL_len {raw : List Ins} {k : Nat} (h : k ≤ raw.length) : (aheadL raw k).length = k := by
  unfold aheadL
  simp
  omega
theorem aheadL_ok {raw : List Ins} {k : Nat} (h : k ≤ raw.length) (h10 : k ≤ 10) : Ahead (aheadL raw k) := by
  refine ⟨by rw [aheadL_len h]; exact h10, fun x hx => ?_, fun x hx => ?_⟩
  all_goals
    obtain ⟨i, _, rfl⟩ := List.mem_map.1 hx
  · rfl
  · obtain ⟨h1, h2, _⟩ := ok_ins (right_fit i)
    exact ⟨h1, h2⟩
theorem words_bd9 {L : List Itm} (h : FitOk L) : (wordsTo L L.length).length ≤ 4096 * 17 := by
  have h1 := wordsTo_len h.right L.length
  have h2 := h.most
  omega
/-- at the head of the first loop -/
structure Mv (w wr : World) (raw : List Ins) (v : Value) (k : Nat) : Prop where
  both : Both w wr
  row : XRow wr w.heap.size v (aheadL raw k)
set_option maxRecDepth 100000 in
set_option maxHeartbeats 4000000 in
theorem moved_law (p : Option Addr) (n c : Nat) (raw : List Itm) (p1 : Option Addr) (n1 c1 : Nat) (raw1 : List Ins) (w : World) (hn : raw.length = n) (hm : n ≤ 9223372036854775807) (HP : Hid (1 ≤ n → ∃ b o, p = some ⟨b, o, none⟩ ∧ ItemsAt w b o raw)) (HWF : Hid (∀ x ∈ raw, Itm.wf x))
    (hn1 : raw1.length = n1) (hm1 : n1 ≤ 9223372036854775807) (HP1 : Hid (InsAt w p1 raw1)) (HWF1 : Hid (∀ x ∈ raw1, Ins.wf x)) :
    Calls Try.prog 9 #[.slice p n c, .slice p1 n1 c1] w fun e w' => e = .returned (.bool true) ∧ Both w w' := by
  have ex0 : ∀ (x y : Value) (W : World), (Instr.extract (.tuple #[x, y]) 0).run Try.prog W = .ok x W := fun x y W => by kernel_rfl
  have ex1 : ∀ (x y : Value) (W : World), (Instr.extract (.tuple #[x, y]) 1).run Try.prog W = .ok y W := fun x y W => by kernel_rfl
  have HNN := Lib.hid hn
  have HN1 := Lib.hid hn1
  clear hn hn1
  go_enter Try.func9, Try.ntmps9
  go_upto_region 5 with (first
    | (go_at_call 11; refine (awake_any _).mono ?_; rintro e w1 ⟨rfl, hb1⟩)
    | (go_at_call 12; refine (fit3_any p n c raw _ HNN.out hm (Lib.hid fun h => by obtain ⟨b, o, e, i⟩ := HP.out h; exact ⟨b, o, e, i.both hb1⟩) HWF).mono ?_; rintro e w2 ⟨B, oc, L, rfl, hit, hb2, hok, hcap, hcap2⟩))
  have hpos := hok.pos
  have hmost := hok.most
  have HOK := Lib.hid hok
  have HIT := Lib.hid hit
  have HB2 := Lib.hid (hb1.trans hb2)
  have HWL := Lib.hid hok.wf
  clear hok hit hb1 hb2
  have HS0 : Hid (Mv w2 w2 raw1 (.slice none 0 0) 0) := ⟨Both.refl _, World.ownsRow_nil _ _ _ _⟩
  go_loopw [7, 8] (fun v i wr => ∃ k : Nat, k ≤ n1 ∧ k ≤ 10 ∧ i = .int .i64 k ∧ Hid (Mv w2 wr raw1 v k)) (fun _ i _ => n1 - (intOf i).toNat)
  case atStart => exact ⟨0, by omega, by omega, rfl, HS0.out⟩
  case round =>
    obtain ⟨k, hk, hk2, rfl, HM⟩ := hrel
    by_cases hlt : k < n1 ∧ k < 10
    · obtain ⟨hlt, hl10⟩ := hlt
      obtain ⟨⟨xo, xd, xa, xb, xn⟩, hx⟩ : ∃ y, raw1[k]? = some y := ⟨_, List.getElem?_eq_getElem (by rw [HN1.out]; exact hlt)⟩
      obtain ⟨b, o, rfl, hbl, hcs⟩ := (HP1.out.both (HB2.out.trans HM.out.both)) k _ hx
      have e0 := hcs 0 _ rfl
      have e1 := hcs 1 _ rfl
      have e2 := hcs 2 _ rfl
      have e3 := hcs 3 _ rfl
      have e4 := hcs 4 _ rfl
      rw [Nat.add_zero] at e0
      have HWX := Lib.hid (HWF1.out _ (List.mem_of_getElem? hx))
      have HXK := Lib.hid hx
      have hk' : (k : Int) < n1 := by omega
      have hk16 : (k : Int) < 10 := by omega
      obtain ⟨⟨fo, fd, fa, fb, fn⟩, hfit⟩ : ∃ j, fit ⟨xo, xd, xa, xb, xn⟩ = j := ⟨_, rfl⟩
      have HFIT := Lib.hid hfit
      clear hfit hcs hx hbl HS0
      have HBD : Hid ((aheadL raw1 k).length ≤ 1000 ∧ w2.heap.size ≤ wr.heap.size) := ⟨by rw [aheadL_len (by rw [HN1.out]; omega)]; omega, HM.out.both.1.size⟩
      go_wp2_with (first
        | (at_builtin; refine wpList_xrow rfl (.tmp 33) (.tmp 40) rfl w2.heap.size u7 (aheadL raw1 k) rfl (ownsRow_sav HM.out.row ((hb1.alloc _ _).sav fun _ => False) (fun _ _ => id)) _ ⟨1, ⟨fo, fd, fa, fb, fn⟩, ⟨#[]⟩, 0⟩ rfl (new8 _ _ ⟨1, ⟨fo, fd, fa, fb, fn⟩, ⟨#[]⟩, 0⟩) HBD.out.1 (by have h1 := HBD.out.2; have h2 := hb1.1.size; simp; omega) ?_; intro v' w5 h1 h2 h3)
        | (go_at_call 30; refine (fit3_lit HFIT.out HWX.out _).mono ?_; rintro e w4 ⟨rfl, hb1⟩))
      have HN : Hid (Mv w2 w5 raw1 v' (k + 1)) := ⟨(((hb1.alloc _ _).sav _).trans h2).both HM.out.both (fun j hj => (HM.out.row.lt j hj).1), by rw [aheadL_succ HXK.out]; unfold insX; rw [HFIT.out]; exact h1⟩
      go_roundw
      case rel => exact ⟨k + 1, by omega, by omega, by go_num, HN.out⟩
      case measure => simp [intOf]; omega
    · obtain ⟨A, hA⟩ : ∃ A, aheadL raw1 k = A := ⟨_, rfl⟩
      have hAl : A.length = k := by rw [← hA]; exact aheadL_len (by rw [HN1.out]; omega)
      have hAo : Ahead A := by rw [← hA]; exact aheadL_ok (by rw [HN1.out]; omega) hk2
      have hrow := HM.out.row
      rw [hA] at hrow
      have HAO := Lib.hid hAo
      have HROW := Lib.hid hrow
      have HBR := Lib.hid HM.out.both
      have HITR := Lib.hid (HIT.out.both HM.out.both)
      have hcond : ¬ (k : Int) < n1 ∨ ¬ (k : Int) < 10 := by omega
      clear hAo hrow HS0 hA HM
      obtain ⟨ab, hlenv⟩ : ∃ P c, u7 = .slice P k c := by
        rcases HROW.out.2 with ⟨hv, h0⟩ | ⟨g, cap, cur, rfl, _⟩
        · have : A.length = 0 := by
            have := h0
            omega
          exact ⟨none, 0, by rw [hv]; congr 1; omega⟩
        · exact ⟨_, _, by rw [hAl]⟩
      obtain ⟨c7, rfl⟩ := hlenv
      have hk9 : ¬ ((k : Int) < n1 ∧ (k : Int) < 10) := by omega
      have hcc : ((k : Int) < n1 ∧ ¬ (k : Int) < 10) ∨ ¬ (k : Int) < n1 := by omega
      have HAL := Lib.hid hAl
      clear hAl hcond hk9
      rcases hcc with ⟨hk7, hk8⟩ | hk7
      all_goals
        go_upto_region 10 with (at_builtin; refine wpList_xrows rfl (.tmp 44) (.tmp 45) rfl w2.heap.size (.slice ab k c7) A rfl HROW.out B 0 oc L rfl HITR.out (Or.inl (by omega)) (by rw [HAL.out]; omega) HBR.out.1.size ?_; intro v3 w6 h6 h7 h8)
        have hb6 : Both w2 w6 := h7.both HBR.out (fun j hj => (HROW.out.lt j hj).1)
        obtain ⟨MB, mc, rfl, hMB, hMit, _, hmc, hmc2⟩ := h6.form h8
        have hlayM := HAO.out.lay HOK.out
        have hwl := HAO.out.wordsLen HOK.out
        have hMl : (A ++ L).length = k + L.length := by rw [List.length_append, HAL.out]
        have HWD : Hid (∀ i : Nat, (wordsTo (A ++ L) (A ++ L).length)[i + k]? = (wordsTo L L.length)[i]?) := fun i => by
          have := HAO.out.word HOK.out i
          rw [HAL.out] at this
          exact this
        have HSM : Hid (∀ i : Nat, i ≤ L.length → (sumsTo (szs (A ++ L) (Lb.fin (A ++ L))) (A ++ L).length)[i + k]? = some (4 * (Lb.place L (Lb.fin L) i : Int) + 4 * (k : Int))) := fun i hi => by
          have := HAO.out.sum HOK.out hi
          rw [HAL.out] at this
          exact this
        have HMWF := Lib.hid (HAO.out.wf HOK.out)
        have hw0 := words_bd9 HOK.out
        rw [HAL.out] at hwl
        generalize A ++ L = M at hMit hmc hlayM hwl hMl HWD HSM HMWF ⊢
        have HLAYM := Lib.hid hlayM
        have HMIT := Lib.hid hMit
        have HB6 := Lib.hid (HB2.out.trans hb6)
        have HIT6 := Lib.hid (HIT.out.both hb6)
        have hMpos : 1 ≤ M.length := by omega
        have hMmost : M.length ≤ 27 := by omega
        have vB : IntKind.i64.wrap (((L.length : Int) + 1) + (k : Int)) = (M.length : Int) + 1 := by rw [IntWalk.i64_in _ (by constructor <;> omega)]; omega
        have HML := Lib.hid hMl
        have HWLN := Lib.hid hwl
        clear h6 h7 h8 hb6 hlayM hMit hMB hmc hmc2 hMl hwl HB2 HIT HROW HBR HITR HAO hk7
        go_upto_region 11 with (go_at_call 16; refine (asm_any B 0 oc L _ HIT6 hpos (by omega) HWL).mono ?_; rintro e w7 ⟨hb7, ⟨hne, rfl⟩ | ⟨h0, WB, wc, rfl, hW⟩⟩)
        · exact absurd HOK.out.lay hne
        have HIT7 := Lib.hid (HIT6.out.both hb7)
        have HMIT7 := Lib.hid (HMIT.out.both hb7)
        have HB7 := Lib.hid (HB6.out.trans hb7)
        have HW7 := Lib.hid hW
        clear hW h0 hb7 HIT6 HMIT HB6
        go_upto_region 12 with (go_at_call 16; refine (asm_any MB 0 mc M _ HMIT7 hMpos (by omega) HMWF).mono ?_; rintro e w8 ⟨hb8, ⟨hne, rfl⟩ | ⟨h0, VB, vc, rfl, hV⟩⟩)
        · exact absurd HLAYM.out hne
        have HIT8 := Lib.hid (HIT7.out.both hb8)
        have HMIT8 := Lib.hid (HMIT7.out.both hb8)
        have HB8 := Lib.hid (HB7.out.trans hb8)
        have HW8 := Lib.hid (HW7.out.both hb8)
        have HV8 := Lib.hid hV
        clear hV h0 hb8 HIT7 HMIT7 HB7 HW7
        go_upto_region 13 with (go_at_call 14; refine (places_any B 0 oc L _ HIT8 hpos (by omega) HWL).mono ?_; rintro e w9 ⟨hb9, ⟨hne, rfl⟩ | ⟨h0, PB, rfl, hP⟩⟩)
        · exact absurd HOK.out.lay hne
        have HMIT9 := Lib.hid (HMIT8.out.both hb9)
        have HB9 := Lib.hid (HB8.out.trans hb9)
        have HW9 := Lib.hid (HW8.out.both hb9)
        have HV9 := Lib.hid (HV8.out.both hb9)
        have HP9 := Lib.hid hP
        clear hP h0 hb9 HIT8 HMIT8 HB8 HW8 HV8
        go_upto_region 14 with (go_at_call 14; refine (places_any MB 0 mc M _ HMIT9 hMpos (by omega) HMWF).mono ?_; rintro e w10 ⟨hb10, ⟨hne, rfl⟩ | ⟨h0, QB, rfl, hQ⟩⟩)
        · exact absurd HLAYM.out hne
        have HB10 := Lib.hid (HB9.out.trans hb10)
        have HW10 := Lib.hid (HW9.out.both hb10)
        have HV10 := Lib.hid (HV9.out.both hb10)
        have HP10 := Lib.hid (HP9.out.both hb10)
        have HQ10 := Lib.hid hQ
        have hwn := HWLN.out
        obtain ⟨Ws, hWs⟩ : ∃ l, wordsTo L L.length = l := ⟨_, rfl⟩
        obtain ⟨Vs, hVs⟩ : ∃ l, wordsTo M M.length = l := ⟨_, rfl⟩
        rw [hWs] at HW10 HWD hwn hw0 ⊢
        rw [hVs] at HV10 HWD hwn ⊢
        have vA : IntKind.i64.wrap ((Ws.length : Int) + (k : Int)) = (Vs.length : Int) := by rw [IntWalk.i64_in _ (by constructor <;> omega)]; omega
        have hVl : Vs.length ≤ 70000 := by omega
        have HVW := Lib.hid hwn
        have zA : ((Vs.length : Int) != (Vs.length : Int)) = false := by simp
        have zB : (((M.length : Int) + 1) != ((M.length : Int) + 1)) = false := by simp
        clear hQ h0 hb10 HMIT9 HB9 HW9 HV9 HP9 hwn hWs hVs HWLN HLAYM
        go_wp2_with fail
        clear zA zB vB
        have hb17 : L.length ≤ 17 := hmost
        have hpl : ∀ i, i ≤ L.length → Lb.place L (Lb.fin L) i ≤ 19363 := fun i hi => place_end HOK.out.size hmost (Lb.fin L) hi
        have HPLB := Lib.hid hpl
        clear hpl
        go_loopw [18] (fun i wr => ∃ j : Nat, j ≤ Ws.length ∧ i = .int .i64 j ∧ Hid (Both w10 wr)) (fun i _ => Ws.length - (intOf i).toNat)
        case atStart => exact ⟨0, by omega, rfl, Both.refl _⟩
        case round =>
          obtain ⟨j, hj, rfl, HB⟩ := hrel
          by_cases hlt : j < Ws.length
          · obtain ⟨z, hz⟩ : ∃ z, Ws[j]? = some z := ⟨_, List.getElem?_eq_getElem hlt⟩
            have e1 := (HW10.out.both HB.out).2 j z hz
            have e2 := (HV10.out.both HB.out).2 (j + k) z ((HWD.out j).trans hz)
            rw [Nat.zero_add] at e1 e2
            have hj' : (j : Int) < (Ws.length : Int) := by omega
            have hjk : (j : Int) + (k : Int) < (Vs.length : Int) := by have := HVW.out; omega
            have hjk0 : 0 ≤ (j : Int) + (k : Int) := by omega
            have vC : IntKind.i64.wrap ((j : Int) + (k : Int)) = (j : Int) + (k : Int) := IntWalk.i64_in _ (by constructor <;> omega)
            have z3 : (z != z) = false := by simp
            clear hz
            go_upto_region 19 with (fail)
            go_quiet (fail)
            have HN := Lib.hid (HB.out.trans ((Both.refl wr).drewN nq))
            go_wp2_with fail
            go_roundw
            case rel => exact ⟨j + 1, by omega, by go_num, HN.out⟩
            case measure => simp [intOf]; omega
          · obtain rfl : j = Ws.length := by omega
            clear hlt hj vA
            go_wp2_with fail
            go_loopw [19] (fun i ws => ∃ j : Nat, j ≤ L.length + 1 ∧ i = .int .i64 j ∧ Hid (Both w10 ws)) (fun i _ => L.length + 1 - (intOf i).toNat)
            case atStart => exact ⟨0, by omega, rfl, HB.out⟩
            case round =>
              obtain ⟨j, hj, rfl, HC⟩ := hrel
              by_cases hlt2 : j < L.length + 1
              · have e1 := (HP10.out.both HC.out).2 j _ (sumsTo_get _ _ _ (show j ≤ L.length by omega))
                rw [Nat.zero_add, sumAt_place _ _ _ (by omega)] at e1
                have e2 := (HQ10.out.both HC.out).2 (j + k) _ (HSM.out j (by omega))
                rw [Nat.zero_add] at e2
                have hp := HPLB.out j (by omega)
                generalize Lb.place L (Lb.fin L) j = pj at e1 e2 hp
                obtain ⟨a, ha⟩ : ∃ a : Int, 4 * (pj : Int) = a := ⟨_, rfl⟩
                rw [ha] at e1 e2
                have hj' : (j : Int) < (L.length : Int) + 1 := by omega
                have hjk : (j : Int) + (k : Int) < (M.length : Int) + 1 := by have := HML.out; omega
                have hjk0 : 0 ≤ (j : Int) + (k : Int) := by omega
                have vC : IntKind.i64.wrap ((j : Int) + (k : Int)) = (j : Int) + (k : Int) := IntWalk.i64_in _ (by constructor <;> omega)
                have vE : IntKind.i64.wrap (4 * (k : Int)) = 4 * (k : Int) := IntWalk.i64_in _ (by constructor <;> omega)
                have vF : IntKind.i64.wrap (a + 4 * (k : Int)) = a + 4 * (k : Int) := IntWalk.i64_in _ (by constructor <;> omega)
                have z4 : ((a + 4 * (k : Int)) != (a + 4 * (k : Int))) = false := by simp
                clear hp ha
                go_upto_region 24 with (fail)
                go_quiet (fail)
                have HN := Lib.hid (HC.out.trans ((Both.refl wr).drewN nq))
                go_wp2_with fail
                go_roundw
                case rel => exact ⟨j + 1, by omega, by go_num, HN.out⟩
                case measure => simp [intOf]; omega
              · obtain rfl : j = L.length + 1 := by omega
                go_wp2_with fail
                go_ret
                exact ⟨rfl, HB10.out.trans HC.out⟩
end Go.Proofs.Ytjjbfeoidceiiaa
