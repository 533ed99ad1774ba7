/- LabelIdle's walk. -/
import Derived.Test.YtjjbfeoidceiiaaLIdleP
import Derived.Test.YtjjbfeoidceiiaaLMany
import Derived.Test.YtjjbfeoidceiiaaLLeadP
namespace Go.Proofs.Ytjjbfeoidceiiaa
open Go.RowKit Rv Lb
set_option linter.unusedVariables false
theorem ItemsAt.taken {w : World} {B : Nat} {l : List Itm} (h : ItemsAt w B 0 l) (k : Nat) : ItemsAt w B 0 (l.take k) := by
  have := h.part 0 k
  simpa using this
theorem ItemsAt.dropped {w : World} {B : Nat} {l : List Itm} (h : ItemsAt w B 0 l) (k : Nat) : ItemsAt w B (k * 8) (l.drop k) := by
  have := h.part k l.length
  rw [Nat.zero_add, List.take_of_length_le (by rw [List.length_drop]; omega)] at this
  exact this
set_option maxRecDepth 100000 in
set_option maxHeartbeats 4000000 in
theorem idle_law (p : Option Addr) (n c : Nat) (raw : List Itm) (x : Int) (w : World) (hn : raw.length = n) (hm : n ≤ 9223372036854775807) (HP : Hid (1 ≤ n → ∃ b o, p = some ⟨b, o, none⟩ ∧ ItemsAt w b o raw)) (HWF : Hid (∀ x ∈ raw, Itm.wf x)) (hx : inInt x) :
    Calls Try.prog 10 #[.slice p n c, .int .i64 x] w fun e w' => e = .returned (.bool true) ∧ Both w w' := by
  have ex0 : ∀ (x y : Value) (W : World), (Instr.extract (.tuple #[x, y]) 0).run Try.prog W = .ok x W := fun x y W => by kernel_rfl
  have ex1 : ∀ (x y : Value) (W : World), (Instr.extract (.tuple #[x, y]) 1).run Try.prog W = .ok y W := fun x y W => by kernel_rfl
  have HNN := Lib.hid hn
  have HX := Lib.hid hx
  clear hn hx
  go_enter Try.func10, Try.ntmps10
  go_upto_region 3 with (first
    | (go_at_call 11; refine (awake_any _).mono ?_; rintro e w1 ⟨rfl, hb1⟩)
    | (go_at_call 12; refine (fit3_any p n c raw _ HNN.out hm (Lib.hid fun h => by obtain ⟨b, o, e, i⟩ := HP.out h; exact ⟨b, o, e, i.both hb1⟩) HWF).mono ?_; rintro e w2 ⟨B, oc, L, rfl, hit, hb2, hok, hcap, hcap2⟩))
  have hpos := hok.pos
  have hmost := hok.most
  have HOK := Lib.hid hok
  have HIT := Lib.hid hit
  have HB2 := Lib.hid (hb1.trans hb2)
  have HWL := Lib.hid hok.wf
  clear hok hit hb1 hb2
  have v0 : IntKind.i64.wrap ((L.length : Int) + 1) = (L.length : Int) + 1 := IntWalk.i64_in _ (by constructor <;> omega)
  obtain ⟨k1, k2⟩ := pick_bd x ((L.length : Int) + 1) (by omega)
  obtain ⟨kz, hkz⟩ : ∃ q, pick x ((L.length : Int) + 1) = q := ⟨_, rfl⟩
  rw [hkz] at k1 k2
  have HKZ := Lib.hid hkz
  clear hkz
  obtain ⟨k, rfl⟩ := Int.eq_ofNat_of_zero_le k1
  have hk : k ≤ L.length := by omega
  go_upto_region 4 with (go_at_call 13; ((with_reducible refine (pick3 HX.out (by omega) HKZ.out _).mono ?_); rintro e w' ⟨rfl, rfl⟩))
  have HTK := Lib.hid (show (L.take k).length = k from List.length_take_of_le hk)
  have HDR := Lib.hid (show (L.drop k).length = L.length - k from List.length_drop)
  have hk3 : (k : Int) ≤ (oc : Int) := by omega
  have hk4 : (k : Int) ≤ (L.length : Int) := by omega
  obtain ⟨off, hoff, hdrop⟩ : ∃ off, (if oc = k then some (⟨B, 0, none⟩ : Addr) else some ⟨B, k * 8, none⟩) = some ⟨B, off, none⟩ ∧ ∀ W, ItemsAt W B 0 L → ItemsAt W B off (L.drop k) := by
    by_cases h : oc = k
    · refine ⟨0, by rw [if_pos h], fun W hW => ?_⟩
      have : L.drop k = [] := List.drop_eq_nil_of_le (by omega)
      rw [this]
      exact ⟨hW.1, fun j x hj => by simp at hj⟩
    · exact ⟨k * 8, by rw [if_neg h], fun W hW => hW.dropped k⟩
  have HDROP := Lib.hid hdrop
  clear hdrop
  obtain ⟨base, hbase⟩ : ∃ b, w2.heap.size = b := ⟨_, rfl⟩
  have HBS := Lib.hid hbase
  have HBL := Lib.hid (show B < base from hbase ▸ HIT.out.1)
  have HLEN := Lib.hid (show (L.take k).length ≤ 1000 ∧ (L.take k).length + 1 ≤ 1000 ∧ (L.take k ++ [idleX]).length + (L.drop k).length ≤ 1000 from by
    rw [List.length_append, HTK.out, HDR.out, List.length_singleton]; omega)
  have HSZ := Lib.hid (show ∀ W, Both w2 W → base ≤ W.heap.size from fun W h => hbase ▸ h.1.size)
  clear hbase
  go_region_law (first
    | (refine step_start rfl (.const (.slice none 0 0)) (.tmp 27) rfl base (by kernel_rfl) B 0 oc (L.take k) (by rw [HTK.out]; kernel_rfl) ((HIT.out.both (Both.refl _).drew).taken k) HLEN.out.1 (HSZ.out _ (Both.refl _).drew) ?_; intro v1 w3 h1 h2)
    | (refine step_start rfl (.const (.slice none 0 0)) (.tmp 27) rfl base (by kernel_rfl) B 0 oc (L.take k) (by rw [HTK.out]; kernel_rfl) ((HIT.out.both ((Both.refl _).drew.alloc _ _)).taken k) HLEN.out.1 (HSZ.out _ ((Both.refl _).drew.alloc _ _)) ?_; intro v1 w3 h1 h2)
    | (refine step_xrow rfl (.tmp 28) (.tmp 30) rfl base v1 (L.take k) (by kernel_rfl) (ownsRow_sav h1 (((Both.refl _).alloc _ _).sav fun _ => False) (fun _ _ => id)) w3.heap.size idleX (by kernel_rfl) (new8 w3 _ idleX) HLEN.out.1 (HSZ.out _ (((Both.refl _).drew.trans h2).alloc _ _)) ?_; intro v2 w5 h3 h4 h5)
    | (refine step_xrow rfl (.tmp 28) (.tmp 30) rfl base v1 (L.take k) (by kernel_rfl) h1 w2.drew.heap.size idleX (by kernel_rfl) (fun j u hj => (h2.cell (p := ⟨w2.drew.heap.size, j, none⟩) (by simp)).trans (new8 w2.drew _ idleX j u hj)) HLEN.out.1 (HSZ.out _ (((Both.refl _).drew.alloc _ _).trans h2)) ?_; intro v2 w5 h3 h4 h5)
    | (refine step_xrows rfl (.tmp 31) (.tmp 34) rfl base v2 (L.take k ++ [idleX]) (by kernel_rfl) h3 B off (oc - k) (L.drop k) (by rw [HDR.out]; kernel_rfl) (HDROP.out _ (HIT.out.both (h4.both (((Both.refl w2).drew.trans h2).alloc _ _) (fun j hj => by rw [HBS.out]; exact (h1.lt j hj).1)))) (Or.inr h5) HLEN.out.2.2 (HSZ.out _ (h4.both (((Both.refl w2).drew.trans h2).alloc _ _) (fun j hj => by rw [HBS.out]; exact (h1.lt j hj).1))) ?_; intro v3 w6 h6 h7 h8)
    | (refine step_xrows rfl (.tmp 31) (.tmp 34) rfl base v2 (L.take k ++ [idleX]) (by kernel_rfl) h3 B off (oc - k) (L.drop k) (by rw [HDR.out]; kernel_rfl) (HDROP.out _ (HIT.out.both (h4.both (((Both.refl w2).drew.alloc _ _).trans h2) (fun j hj => by rw [HBS.out]; exact (h1.lt j hj).1)))) (Or.inr h5) HLEN.out.2.2 (HSZ.out _ (h4.both (((Both.refl w2).drew.alloc _ _).trans h2) (fun j hj => by rw [HBS.out]; exact (h1.lt j hj).1))) ?_; intro v3 w6 h6 h7 h8))
  all_goals
    have hb6 : Both w2 w6 := by
      first
        | exact h7.both (h4.both (((Both.refl w2).drew.trans h2).alloc _ _) (fun j hj => by rw [HBS.out]; exact (h1.lt j hj).1)) (fun j hj => by rw [HBS.out]; exact (h3.lt j hj).1)
        | exact h7.both (h4.both (((Both.refl w2).drew.alloc _ _).trans h2) (fun j hj => by rw [HBS.out]; exact (h1.lt j hj).1)) (fun j hj => by rw [HBS.out]; exact (h3.lt j hj).1)
    obtain ⟨MB, mc, rfl, hMB, hMit, _, hmc, hmc2⟩ := h6.form h8
    have eM : L.take k ++ [idleX] ++ L.drop k = ins1 L k idleX := by simp [ins1]
    rw [eM] at hMit hmc ⊢
    have hlayM := idle_lay HOK.out hk
    have hwM := idle_words HOK.out hk
    have hfM := idle_find HOK.out hk
    have hMl := ins1_len idleX hk
    have hMwf : ∀ y ∈ ins1 L k idleX, Itm.wf y := fun y hy => by
      rcases ins1_mem.1 hy with rfl | hy
      · exact idle_right.2
      · exact HWL.out y hy
    generalize ins1 L k idleX = M at hMit hmc hlayM hwM hfM hMl hMwf ⊢
    have HLAYM := Lib.hid hlayM
    have HWM := Lib.hid hwM
    have HFM := Lib.hid hfM
    have HMIT := Lib.hid hMit
    have HMWF := Lib.hid hMwf
    have HB6 := Lib.hid (HB2.out.trans hb6)
    have HIT6 := Lib.hid (HIT.out.both hb6)
    have hMpos : 1 ≤ M.length := by omega
    have hMmost : M.length ≤ 18 := by omega
    clear hMl
    clear h1 h2 h3 h4 h5 h6 h7 h8 hb6 hlayM hwM hfM hMit hMwf eM hMB HB2 HIT HBS HBL HLEN HSZ HDROP HTK HDR hoff hk3 HKZ v0 hmc hmc2
    go_upto_region 6 with (go_at_call 16; refine (asm_any B 0 oc L _ HIT6 hpos (by omega) HWL).mono ?_; rintro e w7 ⟨hb7, ⟨hne, rfl⟩ | ⟨h0, WB, wc, rfl, hW⟩⟩)
    · exact absurd HOK.out.lay hne
    have HIT7 := Lib.hid (HIT6.out.both hb7)
    have HMIT7 := Lib.hid (HMIT.out.both hb7)
    have HB7 := Lib.hid (HB6.out.trans hb7)
    have HW7 := Lib.hid hW
    clear hW h0 hb7 HIT6 HMIT HB6
    go_upto_region 7 with (go_at_call 16; refine (asm_any MB 0 mc M _ HMIT7 hMpos (by omega) HMWF).mono ?_; rintro e w8 ⟨hb8, ⟨hne, rfl⟩ | ⟨h0, VB, vc, rfl, hV⟩⟩)
    · exact absurd HLAYM.out hne
    have HIT8 := Lib.hid (HIT7.out.both hb8)
    have HMIT8 := Lib.hid (HMIT7.out.both hb8)
    have HB8 := Lib.hid (HB7.out.trans hb8)
    have HW8 := Lib.hid (HW7.out.both hb8)
    rw [HWM.out] at hV ⊢
    have HV8 := Lib.hid hV
    clear hV h0 hb8 HIT7 HMIT7 HB7 HW7
    go_upto_region 8 with (go_at_call 14; refine (places_any B 0 oc L _ HIT8 hpos (by omega) HWL).mono ?_; rintro e w9 ⟨hb9, ⟨hne, rfl⟩ | ⟨h0, PB, rfl, hP⟩⟩)
    · exact absurd HOK.out.lay hne
    have HIT9 := Lib.hid (HIT8.out.both hb9)
    have HMIT9 := Lib.hid (HMIT8.out.both hb9)
    have HB9 := Lib.hid (HB8.out.trans hb9)
    have HW9 := Lib.hid (HW8.out.both hb9)
    have HV9 := Lib.hid (HV8.out.both hb9)
    have HPL := Lib.hid hP
    have hwl := HOK.out.words
    have hb19 := place_end HOK.out.size hmost (Lb.fin L) (Nat.le_refl _)
    have hbk := place_end HOK.out.size hmost (Lb.fin L) hk
    have hpk := HPL.out.2 k _ (sumsTo_get _ _ _ hk)
    rw [Nat.zero_add, sumAt_place _ _ _ hk] at hpk
    obtain ⟨f1, f2⟩ := HFM.out
    have hkw : k = L.length → 4 * (place L (Lb.fin L) k : Int) = 4 * ((wordsTo L L.length).length : Int) := fun e => by rw [hwl, e]
    rw [← hwl] at hb19
    generalize wordsTo L L.length = Ws at HW9 HV9 hb19 hkw ⊢
    generalize place L (Lb.fin L) k = pk at hpk f1 hkw hbk
    obtain ⟨a, ha⟩ : ∃ a : Int, 4 * (pk : Int) = a := ⟨_, rfl⟩
    rw [ha] at hpk f1 hkw
    have HF1 := Lib.hid f1
    have HPB0 := Lib.hid HPL.out.1
    have HF2 := Lib.hid f2
    have HPK := Lib.hid hpk
    have HKW := Lib.hid hkw
    clear hP h0 hb9 HIT8 HMIT8 HB8 HW8 HV8 HFM HWM HLAYM hwl hpk f1 f2 hkw HPL
    have z0 : (((Ws.length : Nat) : Int) != ((Ws.length : Nat) : Int)) = false := by simp
    have z1 : ¬ ((L.length : Int) + 1 < (L.length : Int)) := by omega
    have z2 : decide ((L.length : Int) + 1 < (L.length : Int)) = false := decide_eq_false z1
    go_wp2_with fail
    have v5 : IntKind.i64.wrap (4 * (Ws.length : Int)) = 4 * (Ws.length : Int) := IntWalk.i64_in _ (by constructor <;> omega)
    have HPB := Lib.hid (HPB0.out)
    go_loopw [15] (fun i wr => ∃ j : Nat, j ≤ Ws.length ∧ i = .int .i64 j ∧ Hid (Both w9 wr)) (fun i _ => Ws.length - (intOf i).toNat)
    case atStart => exact ⟨0, by omega, rfl, Both.refl _⟩
    case round =>
      obtain ⟨j, hj, rfl, HB⟩ := hrel
      by_cases hlt : j < Ws.length
      · obtain ⟨z, hz⟩ : ∃ z, Ws[j]? = some z := ⟨_, List.getElem?_eq_getElem hlt⟩
        have e1 := (HW9.out.both HB.out).2 j z hz
        have e2 := (HV9.out.both HB.out).2 j z hz
        rw [Nat.zero_add] at e1 e2
        have hj' : (j : Int) < (Ws.length : Int) := by omega
        have z3 : (z != z) = false := by simp
        clear hz z0 z1 z2
        go_upto_region 13 with (fail)
        go_quiet (fail)
        have HN := Lib.hid (HB.out.trans ((Both.refl wr).drewN nq))
        go_wp2_with fail
        go_roundw
        case rel => exact ⟨j + 1, by omega, by go_num, HN.out⟩
        case measure => simp [intOf]; omega
      · obtain rfl : j = Ws.length := by omega
        have HFC1 : Hid (∀ W, Both w9 W → Calls Try.prog 19 #[.slice (some ⟨MB, 0, none⟩) M.length mc, .string ⟨#[105, 100, 108, 101, 33]⟩] W fun e w' => e = .returned (.int .i64 a) ∧ Both W w') := fun W h => by
          have h1 := find_any MB 0 mc M idleName W (Lib.hid (HMIT9.out.both h)) hMpos (by omega) HMWF
          rw [HF1.out] at h1
          exact h1
        have HFC2 : Hid (∀ W, Both w9 W → Calls Try.prog 19 #[.slice (some ⟨B, 0, none⟩) L.length oc, .string ⟨#[105, 100, 108, 101, 33]⟩] W fun e w' => e = .returned (.int .i64 (-1)) ∧ Both W w') := fun W h => by
          have h1 := find_any B 0 oc L idleName W (Lib.hid (HIT9.out.both h)) hpos (by omega) HWL
          rw [HF2.out] at h1
          exact h1
        have hpk := (HB.out.cell (p := ⟨PB, k, none⟩) HPB.out).trans HPK.out
        clear z0 z1 z2 hlt hj
        rcases Nat.lt_or_ge k L.length with hkl | hkl
        · have hkl' : (k : Int) < (L.length : Int) := by omega
          have hkl2 : (k : Int) < (L.length : Int) + 1 := by omega
          go_wp2_with fail
          refine (HFC1.out _ HB.out).mono ?_
          rintro e w10 ⟨rfl, hb10⟩
          have HB10 := Lib.hid (HB.out.trans hb10)
          clear hb10
          go_wp2_with fail
          refine (HFC2.out _ HB10.out).mono ?_
          rintro e w11 ⟨rfl, hb11⟩
          have HB11 := Lib.hid (HB10.out.trans hb11)
          clear hb11
          go_wp2_with fail
          go_ret
          exact ⟨rfl, HB9.out.trans HB11.out⟩
        · obtain rfl : a = 4 * (Ws.length : Int) := HKW.out (by omega)
          have hkl' : ¬ (k : Int) < (L.length : Int) := by omega
          go_wp2_with fail
          refine (HFC1.out _ HB.out).mono ?_
          rintro e w10 ⟨rfl, hb10⟩
          have HB10 := Lib.hid (HB.out.trans hb10)
          clear hb10
          go_wp2_with fail
          refine (HFC2.out _ HB10.out).mono ?_
          rintro e w11 ⟨rfl, hb11⟩
          have HB11 := Lib.hid (HB10.out.trans hb11)
          clear hb11
          go_wp2_with fail
          go_ret
          exact ⟨rfl, HB9.out.trans HB11.out⟩
end Go.Proofs.Ytjjbfeoidceiiaa
