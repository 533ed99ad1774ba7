/- Value, Keeps, Holds. -/
import Derived.Test.YtigefdoejcggpaaNFn6
namespace Go.Proofs.Ytigefdoejcggpaa
open Go.RowKit Ax
set_option linter.unusedVariables false
set_option linter.unusedSimpArgs false
set_option maxRecDepth 100000 in
set_option maxHeartbeats 1000000 in
theorem keepsV_lit {w : World} {p : Option Addr} {l : List Ev} {n c : Nat} (hl : LAt w p l) (hn : l.length = n) (hnc : n ≤ c) (hmax : n ≤ 5000) {i k : Int} {r : Bool} (hr : keepsV l i k = r) : Calls Try.prog 17 #[.slice p n c, .int .i64 i, .int .i64 k] w (OneB r w) := by
  have HL := Lib.hid hl
  have HN := Lib.hid hn
  have HNC := Lib.hid hnc
  have HMX := Lib.hid hmax
  unfold keepsV at hr
  obtain ⟨a, ha⟩ : ∃ a, right l = a := ⟨_, rfl⟩
  obtain ⟨s, hs⟩ : ∃ s, plc l i = s := ⟨_, rfl⟩
  obtain ⟨t, ht⟩ : ∃ t, plc l k = t := ⟨_, rfl⟩
  rw [ha, hs, ht] at hr
  have HA := Lib.hid ha
  have HS := Lib.hid hs
  have HT := Lib.hid ht
  clear hl hn hnc ha hs ht
  cases a
  · obtain rfl : r = false := by rw [← hr]; rfl
    clear hr
    go_enter Try.func17, Try.ntmps17
    go_wp2_with (go_at_call 21; ((with_reducible refine (right_lit (LAt.bel HL.out (Bel.refl _)) HN.out HMX.out HA.out).mono ?_); rintro e w2 ⟨rfl, hbz⟩; have HB1 := Lib.hid hbz; clear hbz))
    go_ret
    exact ⟨rfl, HB1.out⟩
  cases s
  · obtain rfl : r = false := by rw [← hr]; rfl
    clear hr
    go_enter Try.func17, Try.ntmps17
    go_wp2_with (first | (go_at_call 21; ((with_reducible refine (right_lit (LAt.bel HL.out (Bel.refl _)) HN.out HMX.out HA.out).mono ?_); rintro e w2 ⟨rfl, hbz⟩; have HB1 := Lib.hid hbz; clear hbz)) | (go_at_call 27; ((with_reducible refine (isPlc_lit (LAt.bel HL.out HB1.out) HN.out HS.out).mono ?_); rintro e w3 ⟨rfl, hbz⟩; have HB2 := Lib.hid (HB1.out.trans hbz); clear hbz)))
    go_ret
    exact ⟨rfl, HB2.out⟩
  cases t
  · obtain rfl : r = false := by rw [← hr]; rfl
    clear hr
    go_enter Try.func17, Try.ntmps17
    go_wp2_with fail
    (go_at_call 21; ((with_reducible refine (right_lit (LAt.bel HL.out (Bel.refl _)) HN.out HMX.out HA.out).mono ?_); rintro e w2 ⟨rfl, hbz⟩; have HB1 := Lib.hid hbz; clear hbz))
    go_wp2_with fail
    (go_at_call 27; ((with_reducible refine (isPlc_lit (LAt.bel HL.out HB1.out) HN.out HS.out).mono ?_); rintro e w3 ⟨rfl, hbz⟩; have HB2 := Lib.hid (HB1.out.trans hbz); clear hbz))
    go_wp2_with fail
    (go_at_call 27; ((with_reducible refine (isPlc_lit (LAt.bel HL.out HB2.out) HN.out HT.out).mono ?_); rintro e w4 ⟨rfl, hbz⟩; have HB3 := Lib.hid (HB2.out.trans hbz); clear hbz))
    go_wp2_with fail
    go_ret
    exact ⟨rfl, HB3.out⟩
  have hi := plc_acc HS.out
  have hk := plc_acc HT.out
  obtain ⟨i, rfl⟩ : ∃ j : Nat, i = j := ⟨i.toNat, by omega⟩
  obtain ⟨k, rfl⟩ : ∃ j : Nat, k = j := ⟨k.toNat, by omega⟩
  have HI : Hid (i < n) := Lib.hid (by have := HN.out; omega)
  have HK : Hid (k < n) := Lib.hid (by have := HN.out; omega)
  have HR : Hid (kp l i k = r) := Lib.hid (by rw [← hr]; rfl)
  clear hi hk hr
  go_enter Try.func17, Try.ntmps17
  go_wp2_with fail
  (go_at_call 21; ((with_reducible refine (right_lit (LAt.bel HL.out (Bel.refl _)) HN.out HMX.out HA.out).mono ?_); rintro e w2 ⟨rfl, hbz⟩; have HB1 := Lib.hid hbz; clear hbz))
  go_wp2_with fail
  (go_at_call 27; ((with_reducible refine (isPlc_lit (LAt.bel HL.out HB1.out) HN.out HS.out).mono ?_); rintro e w3 ⟨rfl, hbz⟩; have HB2 := Lib.hid (HB1.out.trans hbz); clear hbz))
  go_wp2_with fail
  (go_at_call 27; ((with_reducible refine (isPlc_lit (LAt.bel HL.out HB2.out) HN.out HT.out).mono ?_); rintro e w4 ⟨rfl, hbz⟩; have HB3 := Lib.hid (HB2.out.trans hbz); clear hbz))
  go_wp2_with fail
  refine (keeps_lit (LAt.bel HL.out HB3.out) HN.out HNC.out HMX.out HI.out HK.out HR.out).mono ?_
  rintro e w5 ⟨rfl, hbz⟩
  go_wp2_with fail
  go_ret
  exact ⟨rfl, HB3.out.trans hbz⟩
set_option maxRecDepth 100000 in
set_option maxHeartbeats 1000000 in
theorem valueV_lit {w : World} {p q : Option Addr} {l : List Ev} {o : List Int} {n c m d : Nat} (hl : LAt w p l) (hn : l.length = n) (hnc : n ≤ c) (hmax : n ≤ 5000) (ho : IAt w q o) (hm : o.length = m) (hmd : m ≤ d) (hmm : m ≤ 5000) {i : Int} {x : Int} {t : Bool} (hr : valueV l o i = (x, t)) : Calls Try.prog 15 #[.slice p n c, .slice q m d, .int .i64 i] w fun e w' => e = .returned (.tuple #[.int .i64 x, .bool t]) ∧ Bel w w' := by
  have HL := Lib.hid hl
  have HN := Lib.hid hn
  have HMX := Lib.hid hmax
  have HO := Lib.hid ho
  have HM := Lib.hid hm
  have HMD := Lib.hid hmd
  have HMM := Lib.hid hmm
  unfold valueV at hr
  obtain ⟨a, ha⟩ : ∃ a, right l = a := ⟨_, rfl⟩
  obtain ⟨e, he⟩ : ∃ e, ordB l o = e := ⟨_, rfl⟩
  obtain ⟨s, hs⟩ : ∃ s, plc l i = s := ⟨_, rfl⟩
  rw [ha, he, hs] at hr
  have HA := Lib.hid ha
  have HE := Lib.hid he
  have HS := Lib.hid hs
  clear hl hn ho hm hmd ha he hs
  cases a
  · injection hr with h1 h2
    subst h1
    subst h2
    go_enter Try.func15, Try.ntmps15
    go_wp2_with (go_at_call 21; ((with_reducible refine (right_lit (LAt.bel HL.out (Bel.refl _)) HN.out HMX.out HA.out).mono ?_); rintro e w2 ⟨rfl, hbz⟩; have HB1 := Lib.hid hbz; clear hbz))
    go_ret2
    exact ⟨rfl, HB1.out⟩
  cases e
  · injection hr with h1 h2
    subst h1
    subst h2
    go_enter Try.func15, Try.ntmps15
    go_wp2_with (first | (go_at_call 21; ((with_reducible refine (right_lit (LAt.bel HL.out (Bel.refl _)) HN.out HMX.out HA.out).mono ?_); rintro e w2 ⟨rfl, hbz⟩; have HB1 := Lib.hid hbz; clear hbz)) | (go_at_call 26; ((with_reducible refine (ord_lit (LAt.bel HL.out HB1.out) HN.out HMX.out (IAt.bel HO.out HB1.out) HM.out HMD.out HMM.out HE.out).mono ?_); rintro e w3 ⟨rfl, hbz⟩; have HB2 := Lib.hid (HB1.out.trans hbz); clear hbz)))
    go_ret2
    exact ⟨rfl, HB2.out⟩
  cases s
  · injection hr with h1 h2
    subst h1
    subst h2
    go_enter Try.func15, Try.ntmps15
    go_wp2_with (first | (go_at_call 21; ((with_reducible refine (right_lit (LAt.bel HL.out (Bel.refl _)) HN.out HMX.out HA.out).mono ?_); rintro e w2 ⟨rfl, hbz⟩; have HB1 := Lib.hid hbz; clear hbz)) | (go_at_call 26; ((with_reducible refine (ord_lit (LAt.bel HL.out HB1.out) HN.out HMX.out (IAt.bel HO.out HB1.out) HM.out HMD.out HMM.out HE.out).mono ?_); rintro e w3 ⟨rfl, hbz⟩; have HB2 := Lib.hid (HB1.out.trans hbz); clear hbz)) | (go_at_call 27; ((with_reducible refine (isPlc_lit (LAt.bel HL.out HB2.out) HN.out HS.out).mono ?_); rintro e w4 ⟨rfl, hbz⟩; have HB3 := Lib.hid (HB2.out.trans hbz); clear hbz)))
    go_ret2
    exact ⟨rfl, HB3.out⟩
  have hi := plc_acc HS.out
  obtain ⟨i, rfl⟩ : ∃ j : Nat, i = j := ⟨i.toNat, by omega⟩
  have HI : Hid (i < n) := Lib.hid (by have := HN.out; omega)
  obtain ⟨b, ol, rfl, hbl, hcl⟩ := LAt.get HL.out (i0 := i) (by have := HN.out; have := HI.out; omega)
  obtain ⟨-, d1, -, -⟩ := hcl i (by have := HN.out; have := HI.out; omega)
  have HY : Hid ((ev l i).2.1 = (ev l i).2.1) := Lib.hid rfl
  by_cases hy : (ev l i).2.1 = 1
  · rw [hy] at d1 hr
    have HP : Hid (∀ x ∈ o, 0 ≤ x ∧ x < (n : Int)) := Lib.hid (fun x hx => by
      have := plc_acc ((ord_ordr.1 (ord_iff.1 HE.out)).plc x hx)
      have := HN.out
      omega)
    have HR : Hid (val l o i = x) := Lib.hid (by injection hr)
    obtain rfl : t = true := by injection hr with _ h; exact h.symm
    have HD1 := Lib.hid d1
    have HLT := Lib.hid hbl
    have hi2 : (i : Int) < n := by have := HI.out; omega
    clear hr d1 hcl hbl hi hy HY
    go_enter Try.func15, Try.ntmps15
    go_wp2_with fail
    (go_at_call 21; ((with_reducible refine (right_lit (LAt.bel HL.out (Bel.refl _)) HN.out HMX.out HA.out).mono ?_); rintro e w2 ⟨rfl, hbz⟩; have HB1 := Lib.hid hbz; clear hbz))
    go_wp2_with fail
    (go_at_call 26; ((with_reducible refine (ord_lit (LAt.bel HL.out HB1.out) HN.out HMX.out (IAt.bel HO.out HB1.out) HM.out HMD.out HMM.out HE.out).mono ?_); rintro e w3 ⟨rfl, hbz⟩; have HB2 := Lib.hid (HB1.out.trans hbz); clear hbz))
    go_wp2_with fail
    (go_at_call 27; ((with_reducible refine (isPlc_lit (LAt.bel HL.out HB2.out) HN.out HS.out).mono ?_); rintro e w4 ⟨rfl, hbz⟩; have HB3 := Lib.hid (HB2.out.trans hbz); clear hbz))
    have c1 := (HB3.out.cell (p := ⟨b, _, none⟩) HLT.out).trans HD1.out
    go_wp2_with (go_at_call 28; ((with_reducible refine (value_lit (LAt.bel HL.out HB3.out) HN.out HMX.out (IAt.bel HO.out HB3.out) HM.out HMM.out HP.out HI.out HR.out).mono ?_); rintro e w5 ⟨rfl, hbz⟩; have HB4 := Lib.hid (HB3.out.trans hbz); clear hbz))
    go_ret2
    exact ⟨rfl, HB4.out⟩
  · have hy2 : ((ev l i).2.1 != 1) = true := by simp [hy]
    rw [decide_eq_false hy] at hr
    injection hr with h1 h2
    subst h1
    subst h2
    have HD1 := Lib.hid d1
    have HLT := Lib.hid hbl
    have hi2 : (i : Int) < n := by have := HI.out; omega
    generalize (ev l i).2.1 = y1 at HD1 hy2
    clear d1 hcl hbl hi hy HY
    go_enter Try.func15, Try.ntmps15
    go_wp2_with fail
    (go_at_call 21; ((with_reducible refine (right_lit (LAt.bel HL.out (Bel.refl _)) HN.out HMX.out HA.out).mono ?_); rintro e w2 ⟨rfl, hbz⟩; have HB1 := Lib.hid hbz; clear hbz))
    go_wp2_with fail
    (go_at_call 26; ((with_reducible refine (ord_lit (LAt.bel HL.out HB1.out) HN.out HMX.out (IAt.bel HO.out HB1.out) HM.out HMD.out HMM.out HE.out).mono ?_); rintro e w3 ⟨rfl, hbz⟩; have HB2 := Lib.hid (HB1.out.trans hbz); clear hbz))
    go_wp2_with fail
    (go_at_call 27; ((with_reducible refine (isPlc_lit (LAt.bel HL.out HB2.out) HN.out HS.out).mono ?_); rintro e w4 ⟨rfl, hbz⟩; have HB3 := Lib.hid (HB2.out.trans hbz); clear hbz))
    have c1 := (HB3.out.cell (p := ⟨b, _, none⟩) HLT.out).trans HD1.out
    go_wp2_with fail
    go_ret2
    exact ⟨rfl, HB3.out⟩
end Go.Proofs.Ytigefdoejcggpaa
