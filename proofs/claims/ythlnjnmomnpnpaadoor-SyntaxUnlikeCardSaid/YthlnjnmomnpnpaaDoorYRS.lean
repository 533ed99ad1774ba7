/- The document's own: are two expressions, statements, programs the same? -/
import Derived.Test.YthlnjnmomnpnpaaDoorYSame
import Derived.Deep.RegionHeld3
import Derived.BigQuiet
import Derived.Test.YthlnjnmomnpnpaaDoorYSameS
import Derived.Test.YthlnjnmomnpnpaaDoorYSameP
namespace Go.Proofs.YthlnjnmomnpnpaaDoor
section
open Go.RowKit Tk Sy
set_option linter.unusedVariables false
set_option linter.unusedSimpArgs false
def REx (k : Nat) : Prop := ∀ (w : World) (p q : Option Addr) (c c' : Nat) (l m : List Ex) (r : Bool), eqv l m = r → ExsAt k w p l → EAt w q m → l.length ≤ 9223372036854775807 → m.length ≤ 9223372036854775807 →
  Calls Tryd.prog 15 #[.slice p l.length c, .slice q m.length c'] w fun e w' => e = .returned (.bool r) ∧ Bel w w'
theorem rse_len {w : World} {p q : Option Addr} {c c' : Nat} {l m : List Ex} {r : Bool} (hr : eqv l m = r) (hne : l.length ≠ m.length) (hl1 : l.length ≤ 9223372036854775807) (hl2 : m.length ≤ 9223372036854775807) :
    Calls Tryd.prog 15 #[.slice p l.length c, .slice q m.length c'] w fun e w' => e = .returned (.bool r) ∧ Bel w w' := by
  have HNE : Hid (r = false) := Lib.hid (by
    rw [← hr]
    apply eqv_no
    intro hlm
    exact hne (by rw [hlm]))
  generalize l.length = n1 at hne hl1 ⊢
  generalize m.length = n2 at hne hl2 ⊢
  have q1 : ((n1 : Int) != (n2 : Int)) = true := by rw [bne_iff_ne]; omega
  clear hr hne
  go_enter Tryd.func15, Tryd.ntmps15
  go_wp2_with fail
  go_ret
  exact ⟨rb HNE.out.symm, Bel.refl w⟩
set_option maxRecDepth 100000 in
set_option maxHeartbeats 16000000 in
theorem rsE_any : ∀ k : Nat, REx k := by
  intro k
  induction k with
  | zero =>
    intro w p q c c' l m r hr hE hF hl1 hl2
    by_cases hnn : l.length = m.length
    · obtain rfl : l = [] := hE
      obtain rfl : m = [] := List.length_eq_zero_iff.1 hnn.symm
      have HR := Lib.hid (hr.symm.trans (eqv_iff.2 rfl))
      clear hr hF hl1 hl2 hnn
      go_enter Tryd.func15, Tryd.ntmps15
      go_wp2_with fail
      refine wp_loop_rounds 1 ?_
      rw [rounds_succ]
      go_wp2_with fail
      go_ret
      exact ⟨rb HR.out.symm, Bel.refl w⟩
    · exact rse_len hr hnn hl1 hl2
  | succ k ih =>
    intro w p0 q0 c c' l m r hr hE hF hl1 hl2
    by_cases hnn : l.length = m.length
    · obtain ⟨n1, hn1⟩ : ∃ n, l.length = n := ⟨_, rfl⟩
      rw [hn1] at hnn hl1
      rw [← hnn] at hl2
      rw [hn1, ← hnn]
      have IH : Hid (∀ (w : World) (p q : Option Addr) (c c' : Nat) (l m : List Ex) (r : Bool), eqv l m = r → ExsAt k w p l → EAt w q m → l.length ≤ 9223372036854775807 → m.length ≤ 9223372036854775807 →
  Calls Tryd.prog 15 #[.slice p l.length c, .slice q m.length c'] w fun e w' => e = .returned (.bool r) ∧ Bel w w') := Lib.hid ih
      have HE := Lib.hid hE
      have HF := Lib.hid hF
      have HR := Lib.hid hr
      have HN1 := Lib.hid hn1
      have HN2 := Lib.hid hnn.symm
      have q1 : ((n1 : Int) != (n1 : Int)) = false := bne_self_eq_false _
      clear ih hE hF hr hn1 hnn
      go_enter Tryd.func15, Tryd.ntmps15
      go_wp2_with fail
      go_loopg [5] n1 (fun gk ii wr => ∃ i : Nat, i + gk = n1 ∧ ii = .int .i64 i ∧ Hid (∀ (j : Nat) (x y : Ex), j < i → l[j]? = some x → m[j]? = some y → x = y) ∧ Hid (Bel w wr))
      case atStart => exact ⟨0, by omega, rfl, Lib.hid (fun j x y h => by omega), Lib.hid (Bel.refl _)⟩
      case round =>
        obtain ⟨i, hig, rfl, HA, HB⟩ := hrel
        by_cases hlt : i < n1
        · obtain ⟨x, hx⟩ : ∃ x, l[i]? = some x := ⟨_, List.getElem?_eq_getElem (by rw [HN1.out]; exact hlt)⟩
          obtain ⟨y, hy⟩ : ∃ x, m[i]? = some x := ⟨_, List.getElem?_eq_getElem (by rw [HN2.out]; exact hlt)⟩
          obtain ⟨hwx, bx, ox, qx, cx, rfl, hbl, k0, k1, k2, k3, k4, hEx⟩ := ExsAt.bel HB.out _ _ _ HE.out i x hx
          obtain ⟨hwy, by2, oy, qy, cy, rfl, hbl2, z0, z1, z2, z3, z4, hEy⟩ := (HF.out.bel HB.out).get hy
          have HX := Lib.hid hx
          have HY := Lib.hid hy
          have HLX := Lib.hid hwx.args
          have HLY := Lib.hid hwy.args
          have HEX := Lib.hid hEx
          have HEY := Lib.hid hEy
          have HK : Hid (∀ w', Bel wr w' → (w'.cell? ⟨bx, ox + i * 5, none⟩ = some (.int .i64 x.kind) ∧ w'.cell? ⟨bx, ox + i * 5 + 1, none⟩ = some (.int .i64 x.op) ∧ w'.cell? ⟨bx, ox + i * 5 + 2, none⟩ = some (.int .i64 x.n) ∧ w'.cell? ⟨bx, ox + i * 5 + 3, none⟩ = some (.string x.name)) ∧ (w'.cell? ⟨by2, oy + i * 5, none⟩ = some (.int .i64 y.kind) ∧ w'.cell? ⟨by2, oy + i * 5 + 1, none⟩ = some (.int .i64 y.op) ∧ w'.cell? ⟨by2, oy + i * 5 + 2, none⟩ = some (.int .i64 y.n) ∧ w'.cell? ⟨by2, oy + i * 5 + 3, none⟩ = some (.string y.name))) := Lib.hid (fun w' hb => ⟨⟨(hb.cell (p := ⟨bx, ox + i * 5, none⟩) hbl).trans k0, (hb.cell (p := ⟨bx, ox + i * 5 + 1, none⟩) hbl).trans k1, (hb.cell (p := ⟨bx, ox + i * 5 + 2, none⟩) hbl).trans k2, (hb.cell (p := ⟨bx, ox + i * 5 + 3, none⟩) hbl).trans k3⟩, ⟨(hb.cell (p := ⟨by2, oy + i * 5, none⟩) hbl2).trans z0, (hb.cell (p := ⟨by2, oy + i * 5 + 1, none⟩) hbl2).trans z1, (hb.cell (p := ⟨by2, oy + i * 5 + 2, none⟩) hbl2).trans z2, (hb.cell (p := ⟨by2, oy + i * 5 + 3, none⟩) hbl2).trans z3⟩⟩)
          have HKEEP : Hid (∀ w', Bel wr w' → w'.cell? ⟨bx, ox + i * 5 + 4, none⟩ = some (.slice qx x.args.length cx) ∧ w'.cell? ⟨by2, oy + i * 5 + 4, none⟩ = some (.slice qy y.args.length cy)) := Lib.hid (fun w' hb => ⟨(hb.cell (p := ⟨bx, ox + i * 5 + 4, none⟩) hbl).trans k4, (hb.cell (p := ⟨by2, oy + i * 5 + 4, none⟩) hbl2).trans z4⟩)
          have hk1 : (i : Int) < n1 := by omega
          obtain ⟨b5, hb5⟩ : ∃ b, eqv x.args y.args = b := ⟨_, rfl⟩
          have HB5 := Lib.hid hb5
          clear hwx hwy hEx hEy hx hy k0 k1 k2 k3 k4 z0 z1 z2 z3 z4 hb5 hbl hbl2
          go_upto_region 6 with (fail)
          go_region_held3 (fun w' => w'.cell? ⟨bx, ox + i * 5 + 4, none⟩ = some (.slice qx x.args.length cx) ∧ w'.cell? ⟨by2, oy + i * 5 + 4, none⟩ = some (.slice qy y.args.length cy))
            (first | exact HKEEP.out _ (((Bel.refl _).drew).trans hb12) | exact HKEEP.out _ ((Bel.refl _).drew))
            (first | (go_at_call 15; (with_reducible refine (IH.out _ qx qy cx cy x.args y.args b5 HB5.out (ExsAt.bel ((Bel.refl _).drew) _ _ _ HEX.out) (HEY.out.bel ((Bel.refl _).drew)) HLX.out HLY.out).mono ?_); rintro e w' ⟨rfl, hb12⟩))
          have hbz := ((Bel.refl wr).drew).trans hb12
          obtain ⟨⟨k0, k1, k2, k3⟩, z0, z1, z2, z3⟩ := HK.out _ hbz
          have HB := Lib.hid (HB.out.trans hbz)
          clear hb12 HKEEP hbz HK
          rename_i hh
          clear hh
          obtain ⟨d1, hd1⟩ : ∃ b, (x.kind != y.kind) = b := ⟨_, rfl⟩
          obtain ⟨d2, hd2⟩ : ∃ b, (x.op != y.op) = b := ⟨_, rfl⟩
          obtain ⟨d3, hd3⟩ : ∃ b, (x.n != y.n) = b := ⟨_, rfl⟩
          obtain ⟨d4, hd4⟩ : ∃ b, (x.name.toList == y.name.toList) = b := ⟨_, rfl⟩
          have HQ : Hid (eqv x y = (!d1 && (!d2 && (!d3 && (d4 && b5))))) := Lib.hid (by
            rw [eqv_ex x y, HB5.out, ← hd1, ← hd2, ← hd3, ← hd4]
            simp [bne])
          have hcase : (eqv x y = false ∧ (b5 = false ∨ (b5 = true ∧ d1 = true) ∨ (b5 = true ∧ d1 = false ∧ d2 = true) ∨ (b5 = true ∧ d1 = false ∧ d2 = false ∧ d3 = true) ∨ (b5 = true ∧ d1 = false ∧ d2 = false ∧ d3 = false ∧ d4 = false))) ∨ (eqv x y = true ∧ b5 = true ∧ d1 = false ∧ d2 = false ∧ d3 = false ∧ d4 = true) := by
            rw [HQ.out]
            clear hd1 hd2 hd3 hd4 HQ HB5
            cases b5 <;> cases d1 <;> cases d2 <;> cases d3 <;> cases d4 <;> simp
          rcases hcase with ⟨heq, hc⟩ | ⟨heq, rfl, rfl, rfl, rfl, rfl⟩
          · have HNE : Hid (r = false) := Lib.hid (by
              rw [← HR.out]
              apply eqv_no
              intro hlm
              subst hlm
              have h1 := HX.out
              rw [HY.out] at h1
              have h2 := Option.some.inj h1
              rw [h2, eqv_iff.2 rfl] at heq
              cases heq)
            clear heq HQ
            rcases hc with rfl | ⟨rfl, rfl⟩ | ⟨rfl, rfl, rfl⟩ | ⟨rfl, rfl, rfl, rfl⟩ | ⟨rfl, rfl, rfl, rfl, rfl⟩
            all_goals
              go_upto_region 7 with (fail)
              go_quiet (fail)
              go_wp2_with fail
              go_ret
              exact ⟨rb HNE.out.symm, HB.out.drewN _⟩
          · have hxy := eqv_iff.1 heq
            have HA' : Hid (∀ (j : Nat) (x y : Ex), j < i + 1 → l[j]? = some x → m[j]? = some y → x = y) := Lib.hid (fun j x' y' hj h1 h2 => by
              by_cases hji : j = i
              · subst hji
                rw [HX.out] at h1
                rw [HY.out] at h2
                rw [← Option.some.inj h1, ← Option.some.inj h2]
                exact hxy
              · exact HA.out j x' y' (by omega) h1 h2)
            clear hxy heq HQ
            go_upto_region 7 with (fail)
            go_quiet (fail)
            go_wp2_with fail
            go_roundg (gk - 1)
            case measure => omega
            case rel => exact ⟨i + 1, by omega, by go_num, HA', Lib.hid (HB.out.drewN _)⟩
        · obtain rfl : n1 = i := by omega
          have hrt : r = true := by
            rw [← HR.out]
            exact eqv_iff.2 (eqv_list (by rw [HN1.out, HN2.out]) (fun j x y h1 h2 => HA.out j x y (by have := (List.getElem?_eq_some_iff.1 h1).1; rw [HN1.out] at this; exact this) h1 h2))
          have HRT := Lib.hid hrt
          clear hrt
          go_wp2_with fail
          go_ret
          exact ⟨rb HRT.out.symm, HB.out⟩
    · exact rse_len hr hnn hl1 hl2
end
section
open Go.RowKit Tk Sy
set_option linter.unusedVariables false
set_option linter.unusedSimpArgs false
theorem rsE_at {w : World} {p q : Option Addr} {c c' : Nat} {l m : List Ex} {r : Bool} (hr : eqv l m = r) (hE : EAt w p l) (hF : EAt w q m) (h1 : l.length ≤ 9223372036854775807) (h2 : m.length ≤ 9223372036854775807) :
    Calls Tryd.prog 15 #[.slice p l.length c, .slice q m.length c'] w fun e w' => e = .returned (.bool r) ∧ Bel w w' := by
  obtain ⟨k, hE⟩ := hE
  exact rsE_any k w p q c c' l m r hr hE hF h1 h2
theorem rs_eqv (e f : St) : eqv e f = (eqv e.args f.args && (eqv e.thn f.thn && (eqv e.els f.els && ((e.kind == f.kind) && ((e.name.toList == f.name.toList) && ((e.src.toList == f.src.toList) && (e.n == f.n))))))) := by
  obtain ⟨a1, a2, a3, a4, a5, a6, a7⟩ := e
  obtain ⟨b1, b2, b3, b4, b5, b6, b7⟩ := f
  rw [str_beq, str_beq, Bool.eq_iff_iff]
  simp only [Bool.and_eq_true, beq_iff_eq, eqv_iff, St.kind, St.name, St.src, St.n, St.args, St.thn, St.els]
  constructor
  · intro h
    injection h with h1 h2 h3 h4 h5 h6 h7
    exact ⟨h5, h6, h7, h1, h2, h3, h4⟩
  · rintro ⟨rfl, rfl, rfl, rfl, rfl, rfl, rfl⟩
    rfl
def RSt (k : Nat) : Prop := ∀ (w : World) (p q : Option Addr) (c c' : Nat) (l m : List St) (r : Bool), eqv l m = r → StsAt k w p l → SAt w q m → l.length ≤ 9223372036854775807 → m.length ≤ 9223372036854775807 →
  Calls Tryd.prog 28 #[.slice p l.length c, .slice q m.length c'] w fun e w' => e = .returned (.bool r) ∧ Bel w w'
theorem rss_len {w : World} {p q : Option Addr} {c c' : Nat} {l m : List St} {r : Bool} (hr : eqv l m = r) (hne : l.length ≠ m.length) (hl1 : l.length ≤ 9223372036854775807) (hl2 : m.length ≤ 9223372036854775807) :
    Calls Tryd.prog 28 #[.slice p l.length c, .slice q m.length c'] w fun e w' => e = .returned (.bool r) ∧ Bel w w' := by
  have HNE : Hid (r = false) := Lib.hid (by
    rw [← hr]
    apply eqv_no
    intro hlm
    exact hne (by rw [hlm]))
  generalize l.length = n1 at hne hl1 ⊢
  generalize m.length = n2 at hne hl2 ⊢
  have q1 : ((n1 : Int) != (n2 : Int)) = true := by rw [bne_iff_ne]; omega
  clear hr hne
  go_enter Tryd.func28, Tryd.ntmps28
  go_wp2_with fail
  go_ret
  exact ⟨rb HNE.out.symm, Bel.refl w⟩
set_option maxRecDepth 100000 in
set_option maxHeartbeats 16000000 in
theorem rsS_any : ∀ k : Nat, RSt k := by
  intro k
  induction k with
  | zero =>
    intro w p q c c' l m r hr hE hF hl1 hl2
    by_cases hnn : l.length = m.length
    · obtain rfl : l = [] := hE
      obtain rfl : m = [] := List.length_eq_zero_iff.1 hnn.symm
      have HR := Lib.hid (hr.symm.trans (eqv_iff.2 rfl))
      clear hr hF hl1 hl2 hnn
      go_enter Tryd.func28, Tryd.ntmps28
      go_wp2_with fail
      refine wp_loop_rounds 1 ?_
      rw [rounds_succ]
      go_wp2_with fail
      go_ret
      exact ⟨rb HR.out.symm, Bel.refl w⟩
    · exact rss_len hr hnn hl1 hl2
  | succ k ih =>
    intro w p0 q0 c c' l m r hr hE hF hl1 hl2
    by_cases hnn : l.length = m.length
    · obtain ⟨n1, hn1⟩ : ∃ n, l.length = n := ⟨_, rfl⟩
      rw [hn1] at hnn hl1
      rw [← hnn] at hl2
      rw [hn1, ← hnn]
      have IH : Hid (∀ (w : World) (p q : Option Addr) (c c' : Nat) (l m : List St) (r : Bool), eqv l m = r → StsAt k w p l → SAt w q m → l.length ≤ 9223372036854775807 → m.length ≤ 9223372036854775807 →
  Calls Tryd.prog 28 #[.slice p l.length c, .slice q m.length c'] w fun e w' => e = .returned (.bool r) ∧ Bel w w') := Lib.hid ih
      have HE := Lib.hid hE
      have HF := Lib.hid hF
      have HR := Lib.hid hr
      have HN1 := Lib.hid hn1
      have HN2 := Lib.hid hnn.symm
      have q1 : ((n1 : Int) != (n1 : Int)) = false := bne_self_eq_false _
      clear ih hE hF hr hn1 hnn
      go_enter Tryd.func28, Tryd.ntmps28
      go_wp2_with fail
      go_loopg [5] n1 (fun gk ii wr => ∃ i : Nat, i + gk = n1 ∧ ii = .int .i64 i ∧ Hid (∀ (j : Nat) (x y : St), j < i → l[j]? = some x → m[j]? = some y → x = y) ∧ Hid (Bel w wr))
      case atStart => exact ⟨0, by omega, rfl, Lib.hid (fun j x y h => by omega), Lib.hid (Bel.refl _)⟩
      case round =>
        obtain ⟨i, hig, rfl, HA, HB⟩ := hrel
        by_cases hlt : i < n1
        · obtain ⟨x, hx⟩ : ∃ x, l[i]? = some x := ⟨_, List.getElem?_eq_getElem (by rw [HN1.out]; exact hlt)⟩
          obtain ⟨y, hy⟩ : ∃ x, m[i]? = some x := ⟨_, List.getElem?_eq_getElem (by rw [HN2.out]; exact hlt)⟩
          obtain ⟨hwx, bx, ox, qx, cx, qx1, cx1, qx2, cx2, rfl, hbl, ⟨k0, k1, k2, k3, k4, k5, k6⟩, hAx, hTx, hLx⟩ := StsAt.bel HB.out _ _ _ HE.out i x hx
          obtain ⟨hwy, by2, oy, qy, cy, qy1, cy1, qy2, cy2, rfl, hbl2, ⟨z0, z1, z2, z3, z4, z5, z6⟩, hAy, hTy, hLy⟩ := (HF.out.bel HB.out).get hy
          have HX := Lib.hid hx
          have HY := Lib.hid hy
          have HLX := Lib.hid hwx.args
          have HLY := Lib.hid hwy.args
          have HTLX := Lib.hid hwx.thn
          have HTLY := Lib.hid hwy.thn
          have HELX := Lib.hid hwx.els
          have HELY := Lib.hid hwy.els
          have HEX := Lib.hid hAx
          have HEY := Lib.hid hAy
          have HTX := Lib.hid hTx
          have HTY := Lib.hid hTy
          have HFX := Lib.hid hLx
          have HFY := Lib.hid hLy
          have HK : Hid (∀ w', Bel wr w' → (w'.cell? ⟨bx, ox + i * 7, none⟩ = some (.int .i64 x.kind) ∧ w'.cell? ⟨bx, ox + i * 7 + 1, none⟩ = some (.string x.name) ∧ w'.cell? ⟨bx, ox + i * 7 + 2, none⟩ = some (.string x.src) ∧ w'.cell? ⟨bx, ox + i * 7 + 3, none⟩ = some (.int .i64 x.n)) ∧ (w'.cell? ⟨by2, oy + i * 7, none⟩ = some (.int .i64 y.kind) ∧ w'.cell? ⟨by2, oy + i * 7 + 1, none⟩ = some (.string y.name) ∧ w'.cell? ⟨by2, oy + i * 7 + 2, none⟩ = some (.string y.src) ∧ w'.cell? ⟨by2, oy + i * 7 + 3, none⟩ = some (.int .i64 y.n))) := Lib.hid (fun w' hb => ⟨⟨(hb.cell (p := ⟨bx, ox + i * 7, none⟩) hbl).trans k0, (hb.cell (p := ⟨bx, ox + i * 7 + 1, none⟩) hbl).trans k1, (hb.cell (p := ⟨bx, ox + i * 7 + 2, none⟩) hbl).trans k2, (hb.cell (p := ⟨bx, ox + i * 7 + 3, none⟩) hbl).trans k3⟩, ⟨(hb.cell (p := ⟨by2, oy + i * 7, none⟩) hbl2).trans z0, (hb.cell (p := ⟨by2, oy + i * 7 + 1, none⟩) hbl2).trans z1, (hb.cell (p := ⟨by2, oy + i * 7 + 2, none⟩) hbl2).trans z2, (hb.cell (p := ⟨by2, oy + i * 7 + 3, none⟩) hbl2).trans z3⟩⟩)
          have K4 : Hid (∀ w', Bel wr w' → w'.cell? ⟨bx, ox + i * 7 + 4, none⟩ = some (.slice qx x.args.length cx) ∧ w'.cell? ⟨by2, oy + i * 7 + 4, none⟩ = some (.slice qy y.args.length cy)) := Lib.hid (fun w' hb => ⟨(hb.cell (p := ⟨bx, ox + i * 7 + 4, none⟩) hbl).trans k4, (hb.cell (p := ⟨by2, oy + i * 7 + 4, none⟩) hbl2).trans z4⟩)
          have K5 : Hid (∀ w', Bel wr w' → w'.cell? ⟨bx, ox + i * 7 + 5, none⟩ = some (.slice qx1 x.thn.length cx1) ∧ w'.cell? ⟨by2, oy + i * 7 + 5, none⟩ = some (.slice qy1 y.thn.length cy1)) := Lib.hid (fun w' hb => ⟨(hb.cell (p := ⟨bx, ox + i * 7 + 5, none⟩) hbl).trans k5, (hb.cell (p := ⟨by2, oy + i * 7 + 5, none⟩) hbl2).trans z5⟩)
          have K6 : Hid (∀ w', Bel wr w' → w'.cell? ⟨bx, ox + i * 7 + 6, none⟩ = some (.slice qx2 x.els.length cx2) ∧ w'.cell? ⟨by2, oy + i * 7 + 6, none⟩ = some (.slice qy2 y.els.length cy2)) := Lib.hid (fun w' hb => ⟨(hb.cell (p := ⟨bx, ox + i * 7 + 6, none⟩) hbl).trans k6, (hb.cell (p := ⟨by2, oy + i * 7 + 6, none⟩) hbl2).trans z6⟩)
          have hk1 : (i : Int) < n1 := by omega
          obtain ⟨b5, hb5⟩ : ∃ b, eqv x.args y.args = b := ⟨_, rfl⟩
          obtain ⟨b6, hb6⟩ : ∃ b, eqv x.thn y.thn = b := ⟨_, rfl⟩
          obtain ⟨b7, hb7⟩ : ∃ b, eqv x.els y.els = b := ⟨_, rfl⟩
          have HB5 := Lib.hid hb5
          have HB6 := Lib.hid hb6
          have HB7 := Lib.hid hb7
          clear hwx hwy hAx hAy hTx hTy hLx hLy hx hy k0 k1 k2 k3 k4 k5 k6 z0 z1 z2 z3 z4 z5 z6 hb5 hb6 hb7 hbl hbl2
          go_upto_region 6 with (fail)
          go_region_held3 (fun w' => w'.cell? ⟨bx, ox + i * 7 + 4, none⟩ = some (.slice qx x.args.length cx) ∧ w'.cell? ⟨by2, oy + i * 7 + 4, none⟩ = some (.slice qy y.args.length cy))
            (first | exact K4.out _ (((Bel.refl wr).drew).trans hb12) | exact K4.out _ ((Bel.refl wr).drew))
            (first | (go_at_call 15; (with_reducible refine (rsE_at (p := qx) (q := qy) (c := cx) (c' := cy) HB5.out (HEX.out.bel ((Bel.refl wr).drew)) (HEY.out.bel ((Bel.refl wr).drew)) HLX.out HLY.out).mono ?_); rintro e w' ⟨rfl, hb12⟩))
          have hz0 := ((Bel.refl wr).drew).trans hb12
          clear hb12 K4
          rename_i hh
          clear hh
          rename World => W5
          go_upto_region 7 with (fail)
          go_region_held3 (fun w' => w'.cell? ⟨bx, ox + i * 7 + 5, none⟩ = some (.slice qx1 x.thn.length cx1) ∧ w'.cell? ⟨by2, oy + i * 7 + 5, none⟩ = some (.slice qy1 y.thn.length cy1))
            (first | exact K5.out _ ((hz0.drew).trans hb12) | exact K5.out _ (hz0.drew))
            (first | (go_at_call 28; (with_reducible refine (IH.out _ qx1 qy1 cx1 cy1 x.thn y.thn b6 HB6.out (StsAt.bel (hz0.drew) _ _ _ HTX.out) (HTY.out.bel (hz0.drew)) HTLX.out HTLY.out).mono ?_); rintro e w' ⟨rfl, hb12⟩))
          have hz1 := (hz0.drew).trans hb12
          clear hb12 K5
          rename_i hh
          clear hh
          rename World => W6
          go_upto_region 8 with (fail)
          go_region_held3 (fun w' => w'.cell? ⟨bx, ox + i * 7 + 6, none⟩ = some (.slice qx2 x.els.length cx2) ∧ w'.cell? ⟨by2, oy + i * 7 + 6, none⟩ = some (.slice qy2 y.els.length cy2))
            (first | exact K6.out _ ((hz1.drew).trans hb12) | exact K6.out _ (hz1.drew))
            (first | (go_at_call 28; (with_reducible refine (IH.out _ qx2 qy2 cx2 cy2 x.els y.els b7 HB7.out (StsAt.bel (hz1.drew) _ _ _ HFX.out) (HFY.out.bel (hz1.drew)) HELX.out HELY.out).mono ?_); rintro e w' ⟨rfl, hb12⟩))
          have hz2 := (hz1.drew).trans hb12
          clear hb12 K6
          rename_i hh
          clear hh
          rename World => W7
          obtain ⟨⟨k0, k1, k2, k3⟩, z0, z1, z2, z3⟩ := HK.out _ hz2
          have HB := Lib.hid (HB.out.trans hz2)
          clear hz0 hz1 hz2 HK
          obtain ⟨d1, hd1⟩ : ∃ b, (x.kind != y.kind) = b := ⟨_, rfl⟩
          obtain ⟨d2, hd2⟩ : ∃ b, (x.name.toList == y.name.toList) = b := ⟨_, rfl⟩
          obtain ⟨d3, hd3⟩ : ∃ b, (x.src.toList == y.src.toList) = b := ⟨_, rfl⟩
          obtain ⟨d4, hd4⟩ : ∃ b, (x.n != y.n) = b := ⟨_, rfl⟩
          have HQ : Hid (eqv x y = (b5 && (b6 && (b7 && (!d1 && (d2 && (d3 && !d4))))))) := Lib.hid (by
            rw [rs_eqv x y, HB5.out, HB6.out, HB7.out, ← hd1, ← hd2, ← hd3, ← hd4]
            simp [bne])
          have hcase : (eqv x y = false ∧ (b5 = false ∨ (b5 = true ∧ b6 = false) ∨ (b5 = true ∧ b6 = true ∧ b7 = false) ∨ (b5 = true ∧ b6 = true ∧ b7 = true ∧ d1 = true) ∨ (b5 = true ∧ b6 = true ∧ b7 = true ∧ d1 = false ∧ d2 = false) ∨ (b5 = true ∧ b6 = true ∧ b7 = true ∧ d1 = false ∧ d2 = true ∧ d3 = false) ∨ (b5 = true ∧ b6 = true ∧ b7 = true ∧ d1 = false ∧ d2 = true ∧ d3 = true ∧ d4 = true))) ∨ (eqv x y = true ∧ b5 = true ∧ b6 = true ∧ b7 = true ∧ d1 = false ∧ d2 = true ∧ d3 = true ∧ d4 = false) := by
            rw [HQ.out]
            clear hd1 hd2 hd3 hd4 HQ HB5 HB6 HB7
            cases b5 <;> cases b6 <;> cases b7 <;> cases d1 <;> cases d2 <;> cases d3 <;> cases d4 <;> simp
          rcases hcase with ⟨heq, hc⟩ | ⟨heq, rfl, rfl, rfl, rfl, rfl, rfl, rfl⟩
          · have HNE : Hid (r = false) := Lib.hid (by
              rw [← HR.out]
              apply eqv_no
              intro hlm
              subst hlm
              have h1 := HX.out
              rw [HY.out] at h1
              have h2 := Option.some.inj h1
              rw [h2, eqv_iff.2 rfl] at heq
              cases heq)
            clear heq HQ
            rcases hc with rfl | ⟨rfl, rfl⟩ | ⟨rfl, rfl, rfl⟩ | ⟨rfl, rfl, rfl, rfl⟩ | ⟨rfl, rfl, rfl, rfl, rfl⟩ | ⟨rfl, rfl, rfl, rfl, rfl, rfl⟩ | ⟨rfl, rfl, rfl, rfl, rfl, rfl, rfl⟩
            all_goals
              go_upto_region 9 with (fail)
              go_quiet (fail)
              go_wp2_with fail
              go_ret
              exact ⟨rb HNE.out.symm, HB.out.drewN _⟩
          · have hxy := eqv_iff.1 heq
            have HA' : Hid (∀ (j : Nat) (x y : St), j < i + 1 → l[j]? = some x → m[j]? = some y → x = y) := Lib.hid (fun j x' y' hj h1 h2 => by
              by_cases hji : j = i
              · subst hji
                rw [HX.out] at h1
                rw [HY.out] at h2
                rw [← Option.some.inj h1, ← Option.some.inj h2]
                exact hxy
              · exact HA.out j x' y' (by omega) h1 h2)
            clear hxy heq HQ
            go_upto_region 9 with (fail)
            go_quiet (fail)
            go_wp2_with fail
            go_roundg (gk - 1)
            case measure => omega
            case rel => exact ⟨i + 1, by omega, by go_num, HA', Lib.hid (HB.out.drewN _)⟩
        · obtain rfl : n1 = i := by omega
          have hrt : r = true := by
            rw [← HR.out]
            exact eqv_iff.2 (eqv_list (by rw [HN1.out, HN2.out]) (fun j x y h1 h2 => HA.out j x y (by have := (List.getElem?_eq_some_iff.1 h1).1; rw [HN1.out] at this; exact this) h1 h2))
          have HRT := Lib.hid hrt
          clear hrt
          go_wp2_with fail
          go_ret
          exact ⟨rb HRT.out.symm, HB.out⟩
    · exact rss_len hr hnn hl1 hl2
end
section
open Go.RowKit Tk Sy
set_option linter.unusedVariables false
set_option linter.unusedSimpArgs false
theorem rsS_at {w : World} {p q : Option Addr} {c c' : Nat} {l m : List St} {r : Bool} (hr : eqv l m = r) (hE : SAt w p l) (hF : SAt w q m) (h1 : l.length ≤ 9223372036854775807) (h2 : m.length ≤ 9223372036854775807) :
    Calls Tryd.prog 28 #[.slice p l.length c, .slice q m.length c'] w fun e w' => e = .returned (.bool r) ∧ Bel w w' := by
  obtain ⟨k, hE⟩ := hE
  exact rsS_any k w p q c c' l m r hr hE hF h1 h2
theorem list_eq {α : Type} {l m : List α} (hl : l.length = m.length) (h : ∀ j : Nat, j < l.length → l[j]? = m[j]?) : l = m := List.ext_getElem? fun j => by
  by_cases hj : j < l.length
  · exact h j hj
  · rw [List.getElem?_eq_none (by omega), List.getElem?_eq_none (by omega)]
set_option maxRecDepth 100000 in
set_option maxHeartbeats 16000000 in
theorem rsame_lit {e f : Prg} {r : Bool} (hr : eqv e f = r) (w : World) {p1 p2 p3 q1 q2 q3 : Option Addr} {c1 c2 c3 d1 d2 d3 : Nat} (hE : PrgAt w p1 p2 p3 e) (hF : PrgAt w q1 q2 q3 f) :
    Calls Tryd.prog 13 #[prgV p1 c1 p2 c2 p3 c3 e, prgV q1 d1 q2 d2 q3 d3 f] w fun e w' => e = .returned (.bool r) ∧ Bel w w' := by
  obtain ⟨e1, e2, e3, e4⟩ := e
  obtain ⟨f1, f2, f3, f4⟩ := f
  have HD1 : Hid (DevsAt w p1 e2) := Lib.hid hE.devs
  have HD2 : Hid (DevsAt w q1 f2) := Lib.hid hF.devs
  have HR1 : Hid (RscsAt w p2 e3) := Lib.hid hE.rscs
  have HR2 : Hid (RscsAt w q2 f3) := Lib.hid hF.rscs
  have HT1 : Hid (TsksAt w p3 e4) := Lib.hid hE.tasks
  have HT2 : Hid (TsksAt w q3 f4) := Lib.hid hF.tasks
  have l1 : e2.length ≤ 9223372036854775807 := hE.ld
  have l2 : e3.length ≤ 9223372036854775807 := hE.lr
  have l3 : e4.length ≤ 9223372036854775807 := hE.lt
  have l4 : f2.length ≤ 9223372036854775807 := hF.ld
  have l5 : f3.length ≤ 9223372036854775807 := hF.lr
  have l6 : f4.length ≤ 9223372036854775807 := hF.lt
  show Calls Tryd.prog 13 #[.agg #[.int .i64 e1, .slice p1 e2.length c1, .slice p2 e3.length c2, .slice p3 e4.length c3], .agg #[.int .i64 f1, .slice q1 f2.length d1, .slice q2 f3.length d2, .slice q3 f4.length d3]] w _
  obtain ⟨n1, hn1⟩ : ∃ n, e2.length = n := ⟨_, rfl⟩
  obtain ⟨n2, hn2⟩ : ∃ n, e3.length = n := ⟨_, rfl⟩
  obtain ⟨n3, hn3⟩ : ∃ n, e4.length = n := ⟨_, rfl⟩
  obtain ⟨m1, hm1⟩ : ∃ n, f2.length = n := ⟨_, rfl⟩
  obtain ⟨m2, hm2⟩ : ∃ n, f3.length = n := ⟨_, rfl⟩
  obtain ⟨m3, hm3⟩ : ∃ n, f4.length = n := ⟨_, rfl⟩
  rw [hn1, hn2, hn3, hm1, hm2, hm3]
  rw [hn1] at l1
  rw [hn2] at l2
  rw [hn3] at l3
  rw [hm1] at l4
  rw [hm2] at l5
  rw [hm3] at l6
  have HR := Lib.hid hr
  have HN1 := Lib.hid hn1
  have HN2 := Lib.hid hn2
  have HN3 := Lib.hid hn3
  have HM1 := Lib.hid hm1
  have HM2 := Lib.hid hm2
  have HM3 := Lib.hid hm3
  clear hE hF hr hn1 hn2 hn3 hm1 hm2 hm3
  go_enter Tryd.func13, Tryd.ntmps13
  go_upto_region 1 with (fail)
  have hA := (heap_alloc_old (w.alloc (.cells #[.int .i64 e1, .slice p1 n1 c1, .slice p2 n2 c2, .slice p3 n3 c3] 28)) (.cells #[.int .i64 f1, .slice q1 m1 d1, .slice q2 m2 d2, .slice q3 m3 d3] 28) (lt_of_heap (heap_alloc_new w _))).trans (heap_alloc_new w (.cells #[.int .i64 e1, .slice p1 n1 c1, .slice p2 n2 c2, .slice p3 n3 c3] 28))
  have hB := heap_alloc_new (w.alloc (.cells #[.int .i64 e1, .slice p1 n1 c1, .slice p2 n2 c2, .slice p3 n3 c3] 28)) (.cells #[.int .i64 f1, .slice q1 m1 d1, .slice q2 m2 d2, .slice q3 m3 d3] 28)
  have hz : (w.alloc (.cells #[.int .i64 e1, .slice p1 n1 c1, .slice p2 n2 c2, .slice p3 n3 c3] 28)).heap.size = w.heap.size + 1 := by unfold World.alloc; exact Array.size_push _
  rw [hz] at hB
  have hb0 := ((Bel.refl w).alloc #[.int .i64 e1, .slice p1 n1 c1, .slice p2 n2 c2, .slice p3 n3 c3] 28).alloc #[.int .i64 f1, .slice q1 m1 d1, .slice q2 m2 d2, .slice q3 m3 d3] 28
  generalize (w.alloc (.cells #[.int .i64 e1, .slice p1 n1 c1, .slice p2 n2 c2, .slice p3 n3 c3] 28)).alloc (.cells #[.int .i64 f1, .slice q1 m1 d1, .slice q2 m2 d2, .slice q3 m3 d3] 28) = W at hA hB hb0 ⊢
  clear hz
  generalize w.heap.size + 1 = gB at hB ⊢
  generalize w.heap.size = gA at hA ⊢
  have HXA := Lib.hid hA
  have HXB := Lib.hid hB
  have HB0 := Lib.hid hb0
  have u0 : W.cell? ⟨gA, 0, none⟩ = some (.int .i64 e1) := cell_of_heap hA 0
  have u1 : W.cell? ⟨gA, 1, none⟩ = some (.slice p1 n1 c1) := cell_of_heap hA 1
  have u2 : W.cell? ⟨gA, 2, none⟩ = some (.slice p2 n2 c2) := cell_of_heap hA 2
  have u3 : W.cell? ⟨gA, 3, none⟩ = some (.slice p3 n3 c3) := cell_of_heap hA 3
  have x0 : W.cell? ⟨gB, 0, none⟩ = some (.int .i64 f1) := cell_of_heap hB 0
  have x1 : W.cell? ⟨gB, 1, none⟩ = some (.slice q1 m1 d1) := cell_of_heap hB 1
  have x2 : W.cell? ⟨gB, 2, none⟩ = some (.slice q2 m2 d2) := cell_of_heap hB 2
  have x3 : W.cell? ⟨gB, 3, none⟩ = some (.slice q3 m3 d3) := cell_of_heap hB 3
  clear hA hB hb0
  by_cases hh : e1 = f1 ∧ n1 = m1 ∧ n2 = m2 ∧ n3 = m3
  · obtain ⟨h1, h2, h3, h4⟩ := hh
    subst h1 h2 h3 h4
    have v1 : (e1 != e1) = false := bne_self_eq_false _
    have v2 : ((n1 : Int) != (n1 : Int)) = false := bne_self_eq_false _
    have v3 : ((n2 : Int) != (n2 : Int)) = false := bne_self_eq_false _
    have v4 : ((n3 : Int) != (n3 : Int)) = false := bne_self_eq_false _
    go_wp2_with fail
    clear u0 u1 u2 u3 x0 x1 x2 x3 v1 v2 v3 v4
    have HW5 := Lib.hid (Bel.refl W)
    go_loopg [5] n1 (fun gk ii wr => ∃ i : Nat, i + gk = n1 ∧ ii = .int .i64 i ∧ Hid (∀ j : Nat, j < i → e2[j]? = f2[j]?) ∧ Hid (Bel W wr))
    case atStart => exact ⟨0, by omega, rfl, Lib.hid (fun j hj => by omega), HW5⟩
    case round =>
      obtain ⟨i, hig, rfl, HAA, HBB⟩ := hrel
      have u : wr.cell? ⟨gA, 1, none⟩ = some (.slice p1 n1 c1) := cell_of_heap (HBB.out.stays HXA.out) 1
      have x : wr.cell? ⟨gB, 1, none⟩ = some (.slice q1 n1 d1) := cell_of_heap (HBB.out.stays HXB.out) 1
      by_cases hlt : i < n1
      · obtain ⟨⟨s, k⟩, hxk⟩ : ∃ x, e2[i]? = some x := ⟨_, List.getElem?_eq_getElem (by rw [HN1.out]; exact hlt)⟩
        obtain ⟨⟨s', k'⟩, hyk⟩ : ∃ y, f2[i]? = some y := ⟨_, List.getElem?_eq_getElem (by rw [HM1.out]; exact hlt)⟩
        obtain ⟨_, b1, o1, hp, _, y1, y1'⟩ := (HD1.out.bel (HB0.out.trans HBB.out)) i _ hxk
        obtain ⟨_, b2, o2, hq, _, y2, y2'⟩ := (HD2.out.bel (HB0.out.trans HBB.out)) i _ hyk
        subst hp
        subst hq
        simp only at y1 y1' y2 y2'
        have hk' : (i : Int) < (n1 : Int) := by omega
        by_cases hxy : s = s' ∧ k = k'
        · have HNX : Hid (∀ j : Nat, j < i + 1 → e2[j]? = f2[j]?) := Lib.hid (fun j hj => by
            by_cases e : j = i
            · rw [e, hxk, hyk, hxy.1, hxy.2]
            · exact HAA.out j (by omega))
          obtain ⟨rfl, rfl⟩ := hxy
          have v1 := neq_sameDv s k
          clear hxk hyk
          go_wp2_with fail
          go_quiet (fail)
          go_wp2_with fail
          go_roundg (gk - 1)
          case measure => omega
          case rel => exact ⟨i + 1, by omega, by go_num, HNX, Lib.hid (HBB.out.drewN _)⟩
        · have HNE : Hid (r = false) := Lib.hid (by
            rw [← HR.out]
            apply eqv_no
            intro hlm
            injection hlm with z1 z2 z3 z4
            rw [z2, hyk] at hxk
            have h := Option.some.inj hxk
            injection h with h1 h2
            exact hxy ⟨h1.symm, h2.symm⟩)
          have v1 := neq_otherDv s s' k k' hxy
          clear hxk hyk hxy
          go_wp2_with fail
          go_quiet (fail)
          go_wp2_with fail
          go_ret
          exact ⟨rb HNE.out.symm, (HB0.out.trans HBB.out).drewN _⟩
      · obtain rfl : n1 = i := by omega
        have HEQ5 : Hid (e2 = f2) := Lib.hid (list_eq (by rw [HN1.out, HM1.out]) (fun j hj => HAA.out j (by rw [HN1.out] at hj; exact hj)))
        have HB0 := Lib.hid (HB0.out.trans HBB.out)
        have HXA := Lib.hid (HBB.out.stays HXA.out)
        have HXB := Lib.hid (HBB.out.stays HXB.out)
        obtain ⟨V5, hV⟩ : ∃ V, V = wr := ⟨_, rfl⟩
        subst hV
        clear hig hlt HAA HBB
        go_wp2_with fail
        clear u x
        have HW6 := Lib.hid (Bel.refl V5)
        go_loopg [6] n2 (fun gk ii wr => ∃ i : Nat, i + gk = n2 ∧ ii = .int .i64 i ∧ Hid (∀ j : Nat, j < i → e3[j]? = f3[j]?) ∧ Hid (Bel V5 wr))
        case atStart => exact ⟨0, by omega, rfl, Lib.hid (fun j hj => by omega), HW6⟩
        case round =>
          obtain ⟨i, hig, rfl, HAA, HBB⟩ := hrel
          have u : wr.cell? ⟨gA, 2, none⟩ = some (.slice p2 n2 c2) := cell_of_heap (HBB.out.stays HXA.out) 2
          have x : wr.cell? ⟨gB, 2, none⟩ = some (.slice q2 n2 d2) := cell_of_heap (HBB.out.stays HXB.out) 2
          by_cases hlt : i < n2
          · obtain ⟨⟨s, k⟩, hxk⟩ : ∃ x, e3[i]? = some x := ⟨_, List.getElem?_eq_getElem (by rw [HN2.out]; exact hlt)⟩
            obtain ⟨⟨s', k'⟩, hyk⟩ : ∃ y, f3[i]? = some y := ⟨_, List.getElem?_eq_getElem (by rw [HM2.out]; exact hlt)⟩
            obtain ⟨_, b1, o1, hp, _, y1, y1'⟩ := (HR1.out.bel (HB0.out.trans HBB.out)) i _ hxk
            obtain ⟨_, b2, o2, hq, _, y2, y2'⟩ := (HR2.out.bel (HB0.out.trans HBB.out)) i _ hyk
            subst hp
            subst hq
            simp only at y1 y1' y2 y2'
            have hk' : (i : Int) < (n2 : Int) := by omega
            by_cases hxy : s = s' ∧ k = k'
            · have HNX : Hid (∀ j : Nat, j < i + 1 → e3[j]? = f3[j]?) := Lib.hid (fun j hj => by
                by_cases e : j = i
                · rw [e, hxk, hyk, hxy.1, hxy.2]
                · exact HAA.out j (by omega))
              obtain ⟨rfl, rfl⟩ := hxy
              have v1 := neq_sameRs s k
              clear hxk hyk
              go_wp2_with fail
              go_quiet (fail)
              go_wp2_with fail
              go_roundg (gk - 1)
              case measure => omega
              case rel => exact ⟨i + 1, by omega, by go_num, HNX, Lib.hid (HBB.out.drewN _)⟩
            · have HNE : Hid (r = false) := Lib.hid (by
                rw [← HR.out]
                apply eqv_no
                intro hlm
                injection hlm with z1 z2 z3 z4
                rw [z3, hyk] at hxk
                have h := Option.some.inj hxk
                injection h with h1 h2
                exact hxy ⟨h1.symm, h2.symm⟩)
              have v1 := neq_otherRs s s' k k' hxy
              clear hxk hyk hxy
              go_wp2_with fail
              go_quiet (fail)
              go_wp2_with fail
              go_ret
              exact ⟨rb HNE.out.symm, (HB0.out.trans HBB.out).drewN _⟩
          · obtain rfl : n2 = i := by omega
            have HEQ6 : Hid (e3 = f3) := Lib.hid (list_eq (by rw [HN2.out, HM2.out]) (fun j hj => HAA.out j (by rw [HN2.out] at hj; exact hj)))
            have HB0 := Lib.hid (HB0.out.trans HBB.out)
            have HXA := Lib.hid (HBB.out.stays HXA.out)
            have HXB := Lib.hid (HBB.out.stays HXB.out)
            obtain ⟨V6, hV⟩ : ∃ V, V = wr := ⟨_, rfl⟩
            subst hV
            clear hig hlt HAA HBB
            go_wp2_with fail
            clear u x
            have HW7 := Lib.hid (Bel.refl V6)
            go_loopg [7] n3 (fun gk ii wr => ∃ i : Nat, i + gk = n3 ∧ ii = .int .i64 i ∧ Hid (∀ (j : Nat) (x y : Tsk), j < i → e4[j]? = some x → f4[j]? = some y → x = y) ∧ Hid (Bel V6 wr))
            case atStart => exact ⟨0, by omega, rfl, Lib.hid (fun j x y hj => by omega), HW7⟩
            case round =>
              obtain ⟨i, hig, rfl, HAA, HBB⟩ := hrel
              have u : wr.cell? ⟨gA, 3, none⟩ = some (.slice p3 n3 c3) := cell_of_heap (HBB.out.stays HXA.out) 3
              by_cases hlt : i < n3
              · obtain ⟨x, hx⟩ : ∃ x, e4[i]? = some x := ⟨_, List.getElem?_eq_getElem (by rw [HN3.out]; exact hlt)⟩
                obtain ⟨y, hy⟩ : ∃ x, f4[i]? = some x := ⟨_, List.getElem?_eq_getElem (by rw [HM3.out]; exact hlt)⟩
                obtain ⟨hwx, bx, ox, qx, cx, rfl, hbl, k0, k1, k2, k3, k4, k5, hsx⟩ := (HT1.out.bel (HB0.out.trans HBB.out)) i x hx
                have HX := Lib.hid hx
                have HLX := Lib.hid hwx.body
                have HSX := Lib.hid hsx
                have hk1 : (i : Int) < (n3 : Int) := by omega
                clear hwx hsx hx
                go_upto_region 17 with (fail)
                obtain ⟨nb, nx⟩ : Bel wr (wr.alloc (.cells #[.string x.name, .bool x.handler, .int .i64 x.hart, .int .i64 x.prio, .int .i64 x.line, .slice qx x.body.length cx] 48)) ∧ (wr.alloc (.cells #[.string x.name, .bool x.handler, .int .i64 x.hart, .int .i64 x.prio, .int .i64 x.line, .slice qx x.body.length cx] 48)).heap[wr.heap.size]? = some (.cells #[.string x.name, .bool x.handler, .int .i64 x.hart, .int .i64 x.prio, .int .i64 x.line, .slice qx x.body.length cx] 48 (0, 0)) := ⟨(Bel.refl wr).alloc _ _, heap_alloc_new wr _⟩
                generalize wr.alloc (.cells #[.string x.name, .bool x.handler, .int .i64 x.hart, .int .i64 x.prio, .int .i64 x.line, .slice qx x.body.length cx] 48) = W8 at nb nx ⊢
                generalize wr.heap.size = g8 at nx ⊢
                have HX8 := Lib.hid nx
                have HBB := Lib.hid (HBB.out.trans nb)
                have HSX := Lib.hid (HSX.out.bel nb)
                clear nb nx u k0 k1 k2 k3 k4 k5 hbl
                have x3 : W8.cell? ⟨gB, 3, none⟩ = some (.slice q3 n3 d3) := cell_of_heap (HBB.out.stays HXB.out) 3
                obtain ⟨hwy, by2, oy, qy, cy, rfl, hbl, k0, k1, k2, k3, k4, k5, hsy⟩ := (HT2.out.bel (HB0.out.trans HBB.out)) i y hy
                have HY := Lib.hid hy
                have HLY := Lib.hid hwy.body
                have HSY := Lib.hid hsy
                clear hwy hsy hy
                go_upto_region 18 with (fail)
                obtain ⟨nb, nx⟩ : Bel W8 (W8.alloc (.cells #[.string y.name, .bool y.handler, .int .i64 y.hart, .int .i64 y.prio, .int .i64 y.line, .slice qy y.body.length cy] 48)) ∧ (W8.alloc (.cells #[.string y.name, .bool y.handler, .int .i64 y.hart, .int .i64 y.prio, .int .i64 y.line, .slice qy y.body.length cy] 48)).heap[W8.heap.size]? = some (.cells #[.string y.name, .bool y.handler, .int .i64 y.hart, .int .i64 y.prio, .int .i64 y.line, .slice qy y.body.length cy] 48 (0, 0)) := ⟨(Bel.refl W8).alloc _ _, heap_alloc_new W8 _⟩
                generalize W8.alloc (.cells #[.string y.name, .bool y.handler, .int .i64 y.hart, .int .i64 y.prio, .int .i64 y.line, .slice qy y.body.length cy] 48) = W9 at nb nx ⊢
                generalize W8.heap.size = g9 at nx ⊢
                have HX9 := Lib.hid nx
                have HX8 := Lib.hid (nb.stays HX8.out)
                have HBB := Lib.hid (HBB.out.trans nb)
                have HSX := Lib.hid (HSX.out.bel nb)
                have HSY := Lib.hid (HSY.out.bel nb)
                clear nb nx x3 k0 k1 k2 k3 k4 k5 hbl
                have k5 : W9.cell? ⟨g8, 5, none⟩ = some (.slice qx x.body.length cx) := cell_of_heap HX8.out 5
                have z5 : W9.cell? ⟨g9, 5, none⟩ = some (.slice qy y.body.length cy) := cell_of_heap HX9.out 5
                obtain ⟨b6, hb6⟩ : ∃ b, eqv x.body y.body = b := ⟨_, rfl⟩
                have HB6 := Lib.hid hb6
                clear hb6
                go_wp2_with fail
                refine (rsS_at HB6.out HSX.out HSY.out HLX.out HLY.out).mono ?_
                rintro rr W5 ⟨rfl, hb⟩
                have HBB := Lib.hid (HBB.out.trans hb)
                have HX8 := Lib.hid (hb.stays HX8.out)
                have HX9 := Lib.hid (hb.stays HX9.out)
                clear hb k5 z5
                have k0 : W5.cell? ⟨g8, 0, none⟩ = some (.string x.name) := cell_of_heap HX8.out 0
                have k1 : W5.cell? ⟨g8, 1, none⟩ = some (.bool x.handler) := cell_of_heap HX8.out 1
                have k2 : W5.cell? ⟨g8, 2, none⟩ = some (.int .i64 x.hart) := cell_of_heap HX8.out 2
                have k3 : W5.cell? ⟨g8, 3, none⟩ = some (.int .i64 x.prio) := cell_of_heap HX8.out 3
                have k4 : W5.cell? ⟨g8, 4, none⟩ = some (.int .i64 x.line) := cell_of_heap HX8.out 4
                have k5 : W5.cell? ⟨g8, 5, none⟩ = some (.slice qx x.body.length cx) := cell_of_heap HX8.out 5
                have z0 : W5.cell? ⟨g9, 0, none⟩ = some (.string y.name) := cell_of_heap HX9.out 0
                have z1 : W5.cell? ⟨g9, 1, none⟩ = some (.bool y.handler) := cell_of_heap HX9.out 1
                have z2 : W5.cell? ⟨g9, 2, none⟩ = some (.int .i64 y.hart) := cell_of_heap HX9.out 2
                have z3 : W5.cell? ⟨g9, 3, none⟩ = some (.int .i64 y.prio) := cell_of_heap HX9.out 3
                have z4 : W5.cell? ⟨g9, 4, none⟩ = some (.int .i64 y.line) := cell_of_heap HX9.out 4
                have z5 : W5.cell? ⟨g9, 5, none⟩ = some (.slice qy y.body.length cy) := cell_of_heap HX9.out 5
                obtain ⟨d1, hd1⟩ : ∃ b, (x.name.toList == y.name.toList) = b := ⟨_, rfl⟩
                obtain ⟨d2, hd2⟩ : ∃ b, (x.handler == y.handler) = b := ⟨_, rfl⟩
                obtain ⟨d3', hd3⟩ : ∃ b, (x.hart != y.hart) = b := ⟨_, rfl⟩
                obtain ⟨d4, hd4⟩ : ∃ b, (x.prio != y.prio) = b := ⟨_, rfl⟩
                obtain ⟨d5, hd5⟩ : ∃ b, (x.line != y.line) = b := ⟨_, rfl⟩
                have HQ : Hid (eqv x y = (b6 && (d1 && (d2 && (!d3' && (!d4 && !d5)))))) := Lib.hid (by
                  rw [eqv_tsk x y, HB6.out, ← hd1, ← hd2, ← hd3, ← hd4, ← hd5]
                  cases b6 <;> simp [bne])
                have hcase : (eqv x y = false ∧ (b6 = false ∨ (b6 = true ∧ d1 = false) ∨ (b6 = true ∧ d1 = true ∧ d2 = false) ∨ (b6 = true ∧ d1 = true ∧ d2 = true ∧ d3' = true) ∨ (b6 = true ∧ d1 = true ∧ d2 = true ∧ d3' = false ∧ d4 = true) ∨ (b6 = true ∧ d1 = true ∧ d2 = true ∧ d3' = false ∧ d4 = false ∧ d5 = true))) ∨ (eqv x y = true ∧ b6 = true ∧ d1 = true ∧ d2 = true ∧ d3' = false ∧ d4 = false ∧ d5 = false) := by
                  rw [HQ.out]
                  clear hd1 hd2 hd3 hd4 hd5 HQ HB6
                  cases b6 <;> cases d1 <;> cases d2 <;> cases d3' <;> cases d4 <;> cases d5 <;> simp
                rcases hcase with ⟨heq, hc⟩ | ⟨heq, rfl, rfl, rfl, rfl, rfl, rfl⟩
                · have HNE : Hid (r = false) := Lib.hid (by
                    rw [← HR.out]
                    apply eqv_no
                    intro hlm
                    injection hlm with z1 z2 z3 z4
                    subst z4
                    have h1 := HX.out
                    rw [HY.out] at h1
                    have h2 := Option.some.inj h1
                    rw [h2, eqv_iff.2 rfl] at heq
                    cases heq)
                  clear heq HQ
                  rcases hc with rfl | ⟨rfl, rfl⟩ | ⟨rfl, rfl, rfl⟩ | ⟨rfl, rfl, rfl, rfl⟩ | ⟨rfl, rfl, rfl, rfl, rfl⟩ | ⟨rfl, rfl, rfl, rfl, rfl, rfl⟩
                  all_goals
                    go_wp2_with fail
                    go_ret
                    exact ⟨rb HNE.out.symm, HB0.out.trans HBB.out⟩
                · have hxy := eqv_iff.1 heq
                  have HA' : Hid (∀ (j : Nat) (x y : Tsk), j < i + 1 → e4[j]? = some x → f4[j]? = some y → x = y) := Lib.hid (fun j x' y' hj h1 h2 => by
                    by_cases hji : j = i
                    · subst hji
                      rw [HX.out] at h1
                      rw [HY.out] at h2
                      rw [← Option.some.inj h1, ← Option.some.inj h2]
                      exact hxy
                    · exact HAA.out j x' y' (by omega) h1 h2)
                  clear hxy heq HQ
                  go_wp2_with fail
                  go_roundg (gk - 1)
                  case measure => omega
                  case rel => exact ⟨i + 1, by omega, by go_num, HA', HBB⟩
              · obtain rfl : n3 = i := by omega
                have hrt : r = true := by
                  rw [← HR.out]
                  have z4 : e4 = f4 := eqv_list (by rw [HN3.out, HM3.out]) (fun j x y h1 h2 => HAA.out j x y (by have := (List.getElem?_eq_some_iff.1 h1).1; rw [HN3.out] at this; exact this) h1 h2)
                  rw [HEQ5.out, HEQ6.out, z4]
                  exact eqv_iff.2 rfl
                have HRT := Lib.hid hrt
                clear hrt
                go_wp2_with fail
                go_ret
                exact ⟨rb HRT.out.symm, HB0.out.trans HBB.out⟩
  · have HNE : Hid (r = false) := Lib.hid (by
      rw [← HR.out]
      apply eqv_no
      intro hlm
      injection hlm with z1 z2 z3 z4
      exact hh ⟨z1, by rw [← HN1.out, ← HM1.out, z2], by rw [← HN2.out, ← HM2.out, z3], by rw [← HN3.out, ← HM3.out, z4]⟩)
    obtain ⟨b1, hb1⟩ : ∃ b, (e1 != f1) = b := ⟨_, rfl⟩
    obtain ⟨b2, hb2⟩ : ∃ b, ((n1 : Int) != (m1 : Int)) = b := ⟨_, rfl⟩
    obtain ⟨b3, hb3⟩ : ∃ b, ((n2 : Int) != (m2 : Int)) = b := ⟨_, rfl⟩
    obtain ⟨b4, hb4⟩ : ∃ b, ((n3 : Int) != (m3 : Int)) = b := ⟨_, rfl⟩
    have hc : b1 = true ∨ (b1 = false ∧ b2 = true) ∨ (b1 = false ∧ b2 = false ∧ b3 = true) ∨ (b1 = false ∧ b2 = false ∧ b3 = false ∧ b4 = true) := by
      by_cases z1 : e1 = f1
      · by_cases z2 : n1 = m1
        · by_cases z3 : n2 = m2
          · have z4 : n3 ≠ m3 := fun z4 => hh ⟨z1, z2, z3, z4⟩
            right; right; right
            exact ⟨by rw [← hb1, z1]; exact bne_self_eq_false _, by rw [← hb2, z2]; exact bne_self_eq_false _, by rw [← hb3, z3]; exact bne_self_eq_false _, by rw [← hb4, bne_iff_ne]; omega⟩
          · right; right; left
            exact ⟨by rw [← hb1, z1]; exact bne_self_eq_false _, by rw [← hb2, z2]; exact bne_self_eq_false _, by rw [← hb3, bne_iff_ne]; omega⟩
        · right; left
          exact ⟨by rw [← hb1, z1]; exact bne_self_eq_false _, by rw [← hb2, bne_iff_ne]; omega⟩
      · left
        rw [← hb1, bne_iff_ne]
        exact z1
    clear hh
    rcases hc with rfl | ⟨rfl, rfl⟩ | ⟨rfl, rfl, rfl⟩ | ⟨rfl, rfl, rfl, rfl⟩
    all_goals
      go_wp2_with fail
      go_ret
      exact ⟨rb HNE.out.symm, HB0.out⟩
end
end Go.Proofs.YthlnjnmomnpnpaaDoor
