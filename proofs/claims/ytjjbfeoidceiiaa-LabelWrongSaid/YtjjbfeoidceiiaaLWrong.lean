/- LabelWrong's walk. -/
import Derived.Test.YtjjbfeoidceiiaaLWrongP
import Derived.Test.YtjjbfeoidceiiaaLMany
namespace Go.Proofs.Ytjjbfeoidceiiaa
open Go.RowKit Rv Lb
set_option linter.unusedVariables false
def badAll : List Itm := badX ++ [lostX, mainX]
theorem badAll_wf : ∀ x ∈ badAll, Itm.wf x := by
  intro x hx
  simp only [badAll, badX, lostX, mainX, List.cons_append, List.nil_append, List.mem_cons, List.not_mem_nil, or_false] at hx
  rcases hx with rfl | rfl | rfl | rfl | rfl | rfl | rfl | rfl <;>
    exact ⟨zin (by simp) (by simp), ⟨zin (by simp) (by simp), zin (by simp) (by simp), zin (by simp) (by simp), zin (by simp) (by simp), zin (by simp) (by simp)⟩, by unfold maxLen; simp [ByteArray.size], ⟨by simp, by simp⟩⟩
set_option maxRecDepth 100000 in
theorem items_new (W : World) (t : TypeId) (ys : List Itm) : ItemsAt (W.alloc (.cells (ys.flatMap cells8).toArray t)) W.heap.size 0 ys := by
  refine ⟨by simp, fun j x hj k u hu => ?_⟩
  have h := flat8_get hj hu
  rw [← List.getElem?_toArray] at h
  rw [Nat.zero_add]
  exact (World.cell?_alloc_new W _ _ (j * 8 + k)).trans h
theorem wp_alloc {P : Program} {c : Code} {Q : Exit → Act → World → Prop} {a : Act} {W : World} {o : Obj} (F : World → Prop) (hF : F (W.alloc o)) (h : ∀ W4, F W4 → c.wp P Q a W4) : c.wp P Q a (W.alloc o) := h _ hF
theorem ItemsAt.taken {w : World} {B : Nat} {l : List Itm} (h : ItemsAt w B 0 l) (k : Nat) : ItemsAt w B 0 (l.take k) := by
  have := h.part 0 k
  simpa using this
theorem ItemsAt.dropped {w : World} {B : Nat} {l : List Itm} (h : ItemsAt w B 0 l) (k : Nat) : ItemsAt w B (k * 8) (l.drop k) := by
  have := h.part k l.length
  rw [Nat.zero_add, List.take_of_length_le (by rw [List.length_drop]; omega)] at this
  exact this
set_option maxRecDepth 100000 in
set_option maxHeartbeats 8000000 in
theorem wrong_law (p : Option Addr) (n c : Nat) (raw : List Itm) (x y : Int) (w : World) (hn : raw.length = n) (hm : n ≤ 9223372036854775807) (HP : Hid (1 ≤ n → ∃ b o, p = some ⟨b, o, none⟩ ∧ ItemsAt w b o raw)) (HWF : Hid (∀ x ∈ raw, Itm.wf x)) (hx : inInt x) (hy : inInt y) :
    Calls Try.prog 8 #[.slice p n c, .int .i64 x, .int .i64 y] w fun e w' => e = .returned (.bool true) ∧ Both w w' := by
  have ex0 : ∀ (x y : Value) (W : World), (Instr.extract (.tuple #[x, y]) 0).run Try.prog W = .ok x W := fun x y W => by kernel_rfl
  have ex1 : ∀ (x y : Value) (W : World), (Instr.extract (.tuple #[x, y]) 1).run Try.prog W = .ok y W := fun x y W => by kernel_rfl
  have HNN := Lib.hid hn
  have HX := Lib.hid hx
  have HY := Lib.hid hy
  clear hn hx hy
  obtain ⟨i1, i2⟩ := pick_bd y 8 (by omega)
  obtain ⟨iz, hiz⟩ : ∃ q, pick y 8 = q := ⟨_, rfl⟩
  rw [hiz] at i1 i2
  have HIZ := Lib.hid hiz
  clear hiz
  obtain ⟨i, rfl⟩ := Int.eq_ofNat_of_zero_le i1
  have hi : i < 8 := by omega
  go_enter Try.func8, Try.ntmps8
  go_upto_region 4 with (first
    | (go_at_call 11; refine (awake_any _).mono ?_; rintro e w1 ⟨rfl, hb1⟩)
    | (go_at_call 12; refine (fit3_any p n c raw _ HNN.out hm (Lib.hid fun h => by obtain ⟨b, o, e, i⟩ := HP.out h; exact ⟨b, o, e, i.both hb1⟩) HWF).mono ?_; rintro e w2 ⟨B, oc, L, rfl, hit, hb2, hok, hcap, hcap2⟩))
  have hpos := hok.pos
  have hmost := hok.most
  have HOK := Lib.hid hok
  refine wp_alloc (fun W4 => ItemsAt W4 w2.heap.size 0 badAll ∧ Both w W4 ∧ ItemsAt W4 B 0 L) ⟨items_new w2 _ badAll, (hb1.trans hb2).alloc _ _, hit.both ((Both.refl w2).alloc _ _)⟩ ?_
  rintro W4 ⟨hXL, hb4, hit4⟩
  generalize w2.heap.size = XB at hXL ⊢
  have HXL := Lib.hid hXL
  have HB4 := Lib.hid hb4
  have HIT := Lib.hid hit4
  have HWL := Lib.hid hok.wf
  clear hok hit hb1 hb2 hXL hb4 hit4
  have v0 : IntKind.i64.wrap ((L.length : Int) + 1) = (L.length : Int) + 1 := IntWalk.i64_in _ (by constructor <;> omega)
  obtain ⟨k1, k2⟩ := pick_bd x ((L.length : Int) + 1) (by omega)
  obtain ⟨kz, hkz⟩ : ∃ q, pick x ((L.length : Int) + 1) = q := ⟨_, rfl⟩
  rw [hkz] at k1 k2
  have HKZ := Lib.hid hkz
  clear hkz
  obtain ⟨k, rfl⟩ := Int.eq_ofNat_of_zero_le k1
  have hk : k ≤ L.length := by omega
  go_upto_region 6 with (first
    | (go_at_call 13; ((with_reducible refine (pick3 HY.out (by omega) HIZ.out _).mono ?_); rintro e w' ⟨rfl, rfl⟩))
    | (go_at_call 13; ((with_reducible refine (pick3 HX.out (by omega) HKZ.out _).mono ?_); rintro e w' ⟨rfl, rfl⟩)))
  have HTK := Lib.hid (show (L.take k).length = k from List.length_take_of_le hk)
  have HDR := Lib.hid (show (L.drop k).length = L.length - k from List.length_drop)
  have hk3 : (k : Int) ≤ (oc : Int) := by omega
  have hk4 : (k : Int) ≤ (L.length : Int) := by omega
  obtain ⟨off, hoff, hdrop⟩ : ∃ off, (if oc = k then some (⟨B, 0, none⟩ : Addr) else some ⟨B, k * 8, none⟩) = some ⟨B, off, none⟩ ∧ ∀ W, ItemsAt W B 0 L → ItemsAt W B off (L.drop k) := by
    by_cases h : oc = k
    · refine ⟨0, by rw [if_pos h], fun W hW => ?_⟩
      have : L.drop k = [] := List.drop_eq_nil_of_le (by omega)
      rw [this]
      exact ⟨hW.1, fun j x hj => by simp at hj⟩
    · exact ⟨k * 8, by rw [if_neg h], fun W hW => hW.dropped k⟩
  have HDROP := Lib.hid hdrop
  clear hdrop
  obtain ⟨base, hbase⟩ : ∃ b, W4.heap.size = b := ⟨_, rfl⟩
  have HBS := Lib.hid hbase
  obtain ⟨kd, xo, xd, xa, xb, xn, xm, xs, hxi⟩ := items_one (l := badAll) (k := i) hi
  have HLEN := Lib.hid (show (L.take k).length ≤ 1000 ∧ (L.take k).length + 1 ≤ 1000 ∧ (L.take k ++ [(⟨kd, ⟨xo, xd, xa, xb, xn⟩, xs, xm⟩ : Itm)]).length + (L.drop k).length ≤ 1000 from by
    rw [List.length_append, HTK.out, HDR.out, List.length_singleton]; omega)
  have HSZ := Lib.hid (show ∀ W, Both W4 W → base ≤ W.heap.size from fun W h => hbase ▸ h.1.size)
  have HCX : Hid (∀ W, Both W4 W → W.cell? ⟨XB, i * 8, none⟩ = some (.int .i64 kd) ∧ W.cell? ⟨XB, i * 8 + 1, none⟩ = some (.int .i64 xo) ∧ W.cell? ⟨XB, i * 8 + 2, none⟩ = some (.int .i64 xd) ∧ W.cell? ⟨XB, i * 8 + 3, none⟩ = some (.int .i64 xa) ∧ W.cell? ⟨XB, i * 8 + 4, none⟩ = some (.int .i64 xb) ∧ W.cell? ⟨XB, i * 8 + 5, none⟩ = some (.int .i64 xn) ∧ W.cell? ⟨XB, i * 8 + 6, none⟩ = some (.string xs) ∧ W.cell? ⟨XB, i * 8 + 7, none⟩ = some (.int .i64 xm)) := fun W h => by
    have := (HXL.out.both h).get hxi
    rw [Nat.zero_add] at this
    exact this
  have HXY := Lib.hid hxi
  obtain ⟨e0, e1, e2, e3, e4, e5, e6, e7⟩ := HCX.out _ (Both.refl _)
  have hi8 : (i : Int) < 8 := by omega
  clear hbase hxi
  go_region_law (first
    | (refine step_start rfl (.const (.slice none 0 0)) (.tmp 45) rfl base (by kernel_rfl) B 0 oc (L.take k) (by rw [HTK.out]; kernel_rfl) ((HIT.out.both (Both.refl _).drew).taken k) HLEN.out.1 (HSZ.out _ (Both.refl _).drew) ?_; intro v1 w3 h1 h2; obtain ⟨f0, f1, f2, f3, f4, f5, f6, f7⟩ := HCX.out _ ((Both.refl _).drew.trans h2))
    | (refine step_start rfl (.const (.slice none 0 0)) (.tmp 45) rfl base (by kernel_rfl) B 0 oc (L.take k) (by rw [HTK.out]; kernel_rfl) ((HIT.out.both ((Both.refl _).drew.alloc _ _)).taken k) HLEN.out.1 (HSZ.out _ ((Both.refl _).drew.alloc _ _)) ?_; intro v1 w3 h1 h2)
    | (refine step_xrow rfl (.tmp 46) (.tmp 51) rfl base v1 (L.take k) (by kernel_rfl) (ownsRow_sav h1 (((Both.refl _).alloc _ _).sav fun _ => False) (fun _ _ => id)) w3.heap.size ⟨kd, ⟨xo, xd, xa, xb, xn⟩, xs, xm⟩ (by kernel_rfl) (new8 w3 _ ⟨kd, ⟨xo, xd, xa, xb, xn⟩, xs, xm⟩) HLEN.out.1 (HSZ.out _ (((Both.refl _).drew.trans h2).alloc _ _)) ?_; intro v2 w5 h3 h4 h5)
    | (refine step_xrow rfl (.tmp 46) (.tmp 51) rfl base v1 (L.take k) (by kernel_rfl) h1 W4.drew.heap.size ⟨kd, ⟨xo, xd, xa, xb, xn⟩, xs, xm⟩ (by kernel_rfl) (fun j u hj => (h2.cell (p := ⟨W4.drew.heap.size, j, none⟩) (by simp)).trans (new8 W4.drew _ ⟨kd, ⟨xo, xd, xa, xb, xn⟩, xs, xm⟩ j u hj)) HLEN.out.1 (HSZ.out _ (((Both.refl _).drew.alloc _ _).trans h2)) ?_; intro v2 w5 h3 h4 h5)
    | (refine step_xrows rfl (.tmp 52) (.tmp 55) rfl base v2 (L.take k ++ [⟨kd, ⟨xo, xd, xa, xb, xn⟩, xs, xm⟩]) (by kernel_rfl) h3 B off (oc - k) (L.drop k) (by rw [HDR.out]; kernel_rfl) (HDROP.out _ (HIT.out.both (h4.both (((Both.refl W4).drew.trans h2).alloc _ _) (fun j hj => by rw [HBS.out]; exact (h1.lt j hj).1)))) (Or.inr h5) HLEN.out.2.2 (HSZ.out _ (h4.both (((Both.refl W4).drew.trans h2).alloc _ _) (fun j hj => by rw [HBS.out]; exact (h1.lt j hj).1))) ?_; intro v3 w6 h6 h7 h8)
    | (refine step_xrows rfl (.tmp 52) (.tmp 55) rfl base v2 (L.take k ++ [⟨kd, ⟨xo, xd, xa, xb, xn⟩, xs, xm⟩]) (by kernel_rfl) h3 B off (oc - k) (L.drop k) (by rw [HDR.out]; kernel_rfl) (HDROP.out _ (HIT.out.both (h4.both (((Both.refl W4).drew.alloc _ _).trans h2) (fun j hj => by rw [HBS.out]; exact (h1.lt j hj).1)))) (Or.inr h5) HLEN.out.2.2 (HSZ.out _ (h4.both (((Both.refl W4).drew.alloc _ _).trans h2) (fun j hj => by rw [HBS.out]; exact (h1.lt j hj).1))) ?_; intro v3 w6 h6 h7 h8))
  all_goals
    have hb6 : Both W4 w6 := by
      first
        | exact h7.both (h4.both (((Both.refl W4).drew.trans h2).alloc _ _) (fun j hj => by rw [HBS.out]; exact (h1.lt j hj).1)) (fun j hj => by rw [HBS.out]; exact (h3.lt j hj).1)
        | exact h7.both (h4.both (((Both.refl W4).drew.alloc _ _).trans h2) (fun j hj => by rw [HBS.out]; exact (h1.lt j hj).1)) (fun j hj => by rw [HBS.out]; exact (h3.lt j hj).1)
    obtain ⟨MB, mc, rfl, hMB, hMit, _, hmc, hmc2⟩ := h6.form h8
    have HROW := Lib.hid h6
    have HB6 := Lib.hid (HB4.out.trans hb6)
    have HC6 := Lib.hid (HCX.out _ hb6)
    have eM : L.take k ++ [(⟨kd, ⟨xo, xd, xa, xb, xn⟩, xs, xm⟩ : Itm)] ++ L.drop k = ins1 L k ⟨kd, ⟨xo, xd, xa, xb, xn⟩, xs, xm⟩ := by simp [ins1]
    rw [eM] at hMit hmc HROW ⊢
    have hxm : (⟨kd, ⟨xo, xd, xa, xb, xn⟩, xs, xm⟩ : Itm) ∈ badAll := List.mem_of_getElem? HXY.out
    have hMl := ins1_len (l := L) ⟨kd, ⟨xo, xd, xa, xb, xn⟩, xs, xm⟩ hk
    have hMwf : ∀ y ∈ ins1 L k ⟨kd, ⟨xo, xd, xa, xb, xn⟩, xs, xm⟩, Itm.wf y := fun y hy => by
      rcases ins1_mem.1 hy with rfl | hy
      · exact badAll_wf _ hxm
      · exact HWL.out y hy
    have hl1 : i < 6 → layE (ins1 L k ⟨kd, ⟨xo, xd, xa, xb, xn⟩, xs, xm⟩) = 1 := fun h => lay_bad HOK.out hk (badX_wrong _ (by
      have := HXY.out
      unfold badAll at this
      rw [List.getElem?_append_left (by simpa [badX] using h)] at this
      exact List.mem_of_getElem? this))
    have hl2 : i = 6 → layE (ins1 L k ⟨kd, ⟨xo, xd, xa, xb, xn⟩, xs, xm⟩) = 30 := fun h => by
      have := HXY.out
      rw [h] at this
      rw [← Option.some.inj this]
      exact lay_lostX HOK.out hk
    have hl3 : i = 7 → layE (ins1 L k ⟨kd, ⟨xo, xd, xa, xb, xn⟩, xs, xm⟩ ++ [(⟨kd, ⟨xo, xd, xa, xb, xn⟩, xs, xm⟩ : Itm)]) = 30 := fun h => by
      have := HXY.out
      rw [h] at this
      rw [← Option.some.inj this]
      exact lay_mainX HOK.out hk
    have hi3 : i < 6 ∨ i = 6 ∨ i = 7 := by omega
    generalize ins1 L k ⟨kd, ⟨xo, xd, xa, xb, xn⟩, xs, xm⟩ = M at hMit hmc hMl hMwf hl1 hl2 hl3 HROW ⊢
    have hMpos : 1 ≤ M.length := by omega
    have hMmost : M.length ≤ 18 := by omega
    have HM1 := Lib.hid (show M.length ≤ 1000 by omega)
    have HMIT := Lib.hid hMit
    have HMWF := Lib.hid hMwf
    have HL1 := Lib.hid hl1
    have HL2 := Lib.hid hl2
    have HL3 := Lib.hid hl3
    have HXM := Lib.hid hxm
    have HB2W := Lib.hid hb6
    try clear f0 f1 f2 f3 f4 f5 f6 f7
    clear h1 h2 h3 h4 h5 h6 h7 hb6 eM hMB HIT HTK HDR hoff hk3 HKZ v0 hmc hmc2 hMit hMwf hl1 hl2 hl3 hxm hMl e0 e1 e2 e3 e4 e5 e6 e7 HLEN HDROP h8
    rcases hi3 with hi6 | rfl | rfl
    · have z6 : ((i : Int) == 6) = false := by simp; omega
      have z7 : ((i : Int) == 7) = false := by simp; omega
      have hXwf := HMWF.out
      have hXe := HL1.out hi6
      have hXit := HMIT.out
      have hXpos := hMpos
      have HB7 := HB6
      go_upto_region 13 with (fail)
      have HXW := Lib.hid hXwf
      have HXE := Lib.hid hXe
      have HXT := Lib.hid hXit
      have HFN := Lib.hid (find_bad (l := M) (by rw [HXE.out]; decide) ⟨#[109, 97, 105, 110]⟩)
      clear hXwf hXe hXit
      go_upto_region 14 with (go_at_call 16; refine (asm_any MB 0 mc M _ HXT hXpos (by omega) HXW).mono ?_; rintro e w8 ⟨hb8, ⟨hne, rfl⟩ | ⟨h0, _, _, rfl, _⟩⟩)
      rotate_left
      · exact absurd (HXE.out.symm.trans h0) (by decide)
      have HXT8 := Lib.hid (HXT.out.both hb8)
      have HB8 := Lib.hid (HB7.out.trans hb8)
      rw [HXE.out]
      clear hne hb8
      go_upto_region 15 with (go_at_call 14; refine (places_any MB 0 mc M _ HXT8 hXpos (by omega) HXW).mono ?_; rintro e w9 ⟨hb9, ⟨hne, rfl⟩ | ⟨h0, _, rfl, _⟩⟩)
      rotate_left
      · exact absurd (HXE.out.symm.trans h0) (by decide)
      have HXT9 := Lib.hid (HXT8.out.both hb9)
      have HB9 := Lib.hid (HB8.out.trans hb9)
      rw [HXE.out]
      clear hne hb9
      go_wp2_with fail
      have hf := find_any MB 0 mc M ⟨#[109, 97, 105, 110]⟩ w9 HXT9 hXpos (by omega) HXW
      rw [HFN.out] at hf
      refine hf.mono ?_
      rintro e w10 ⟨rfl, hb10⟩
      go_wp2_with fail
      go_ret
      exact ⟨rfl, HB9.out.trans hb10⟩
    · have hXwf := HMWF.out
      have hXe := HL2.out rfl
      have hXit := HMIT.out
      have hXpos := hMpos
      have HB7 := HB6
      go_upto_region 13 with (fail)
      have HXW := Lib.hid hXwf
      have HXE := Lib.hid hXe
      have HXT := Lib.hid hXit
      have HFN := Lib.hid (find_bad (l := M) (by rw [HXE.out]; decide) ⟨#[109, 97, 105, 110]⟩)
      clear hXwf hXe hXit
      go_upto_region 14 with (go_at_call 16; refine (asm_any MB 0 mc M _ HXT hXpos (by omega) HXW).mono ?_; rintro e w8 ⟨hb8, ⟨hne, rfl⟩ | ⟨h0, _, _, rfl, _⟩⟩)
      rotate_left
      · exact absurd (HXE.out.symm.trans h0) (by decide)
      have HXT8 := Lib.hid (HXT.out.both hb8)
      have HB8 := Lib.hid (HB7.out.trans hb8)
      rw [HXE.out]
      clear hne hb8
      go_upto_region 15 with (go_at_call 14; refine (places_any MB 0 mc M _ HXT8 hXpos (by omega) HXW).mono ?_; rintro e w9 ⟨hb9, ⟨hne, rfl⟩ | ⟨h0, _, rfl, _⟩⟩)
      rotate_left
      · exact absurd (HXE.out.symm.trans h0) (by decide)
      have HXT9 := Lib.hid (HXT8.out.both hb9)
      have HB9 := Lib.hid (HB8.out.trans hb9)
      rw [HXE.out]
      clear hne hb9
      go_wp2_with fail
      have hf := find_any MB 0 mc M ⟨#[109, 97, 105, 110]⟩ w9 HXT9 hXpos (by omega) HXW
      rw [HFN.out] at hf
      refine hf.mono ?_
      rintro e w10 ⟨rfl, hb10⟩
      go_wp2_with fail
      go_ret
      exact ⟨rfl, HB9.out.trans hb10⟩
    · obtain ⟨e0, e1, e2, e3, e4, e5, e6, e7⟩ := HC6.out
      simp only [Nat.reduceMul, Nat.reduceAdd] at e0 e1 e2 e3 e4 e5 e6 e7
      go_upto_region 13 with (at_builtin; refine wpList_xrow rfl (.tmp 61) (.tmp 66) rfl base (.slice (some ⟨MB, 0, none⟩) M.length mc) M rfl (ownsRow_sav HROW.out (((Both.refl _).alloc _ _).sav fun _ => False) (fun _ _ => id)) w6.heap.size ⟨kd, ⟨xo, xd, xa, xb, xn⟩, xs, xm⟩ rfl (new8 w6 _ ⟨kd, ⟨xo, xd, xa, xb, xn⟩, xs, xm⟩) HM1.out (HSZ.out _ (HB2W.out.alloc _ _)) ?_; intro v7 w7 g1 g2 g3)
      have hb7 : Both W4 w7 := ((((Both.refl _).alloc _ _).sav _).trans g2).both HB2W.out (fun j hj => by rw [HBS.out]; exact (HROW.out.lt j hj).1)
      obtain ⟨NB, nc, rfl, hNB, hNit, _, hnc, hnc2⟩ := g1.form g3
      have HB7 := Lib.hid (HB4.out.trans hb7)
      have hNl : (M ++ [(⟨kd, ⟨xo, xd, xa, xb, xn⟩, xs, xm⟩ : Itm)]).length = M.length + 1 := by simp
      have hXwf : ∀ y ∈ M ++ [(⟨kd, ⟨xo, xd, xa, xb, xn⟩, xs, xm⟩ : Itm)], Itm.wf y := fun y hy => by
        rcases List.mem_append.1 hy with hy | hy
        · exact HMWF.out y hy
        · rw [List.mem_singleton] at hy
          rw [hy]
          exact badAll_wf _ HXM.out
      have hXe := HL3.out rfl
      generalize M ++ [(⟨kd, ⟨xo, xd, xa, xb, xn⟩, xs, xm⟩ : Itm)] = N at hNit hXe hXwf hNl ⊢
      have hXit := hNit
      have hXpos : 1 ≤ N.length := by omega
      have hNmost : N.length ≤ 19 := by omega
      clear hNl g1 g2 g3 hb7 hNB hnc hnc2 hNit e0 e1 e2 e3 e4 e5 e6 e7
      have HXW := Lib.hid hXwf
      have HXE := Lib.hid hXe
      have HXT := Lib.hid hXit
      have HFN := Lib.hid (find_bad (l := N) (by rw [HXE.out]; decide) ⟨#[109, 97, 105, 110]⟩)
      clear hXwf hXe hXit
      go_upto_region 14 with (go_at_call 16; refine (asm_any NB 0 nc N _ HXT hXpos (by omega) HXW).mono ?_; rintro e w8 ⟨hb8, ⟨hne, rfl⟩ | ⟨h0, _, _, rfl, _⟩⟩)
      rotate_left
      · exact absurd (HXE.out.symm.trans h0) (by decide)
      have HXT8 := Lib.hid (HXT.out.both hb8)
      have HB8 := Lib.hid (HB7.out.trans hb8)
      rw [HXE.out]
      clear hne hb8
      go_upto_region 15 with (go_at_call 14; refine (places_any NB 0 nc N _ HXT8 hXpos (by omega) HXW).mono ?_; rintro e w9 ⟨hb9, ⟨hne, rfl⟩ | ⟨h0, _, rfl, _⟩⟩)
      rotate_left
      · exact absurd (HXE.out.symm.trans h0) (by decide)
      have HXT9 := Lib.hid (HXT8.out.both hb9)
      have HB9 := Lib.hid (HB8.out.trans hb9)
      rw [HXE.out]
      clear hne hb9
      go_wp2_with fail
      have hf := find_any NB 0 nc N ⟨#[109, 97, 105, 110]⟩ w9 HXT9 hXpos (by omega) HXW
      rw [HFN.out] at hf
      refine hf.mono ?_
      rintro e w10 ⟨rfl, hb10⟩
      go_wp2_with fail
      go_ret
      exact ⟨rfl, HB9.out.trans hb10⟩
end Go.Proofs.Ytjjbfeoidceiiaa
