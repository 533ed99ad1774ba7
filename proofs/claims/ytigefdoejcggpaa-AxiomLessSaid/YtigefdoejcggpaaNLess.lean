/- AxiomLess' walk. -/
import Derived.Test.YtigefdoejcggpaaNLaw0
namespace Go.Proofs.Ytigefdoejcggpaa
open Go.RowKit Ax
set_option linter.unusedVariables false
set_option linter.unusedSimpArgs false
set_option maxRecDepth 100000 in
set_option maxHeartbeats 2000000 in
theorem less_walk {w : World} {p : Option Addr} {raw : List Q4} {n c : Nat} (hl : LAt w p raw) (hn : raw.length = n) (hw : ∀ x ∈ raw, in4 x) {wh : Int} (hwh : inInt wh) :
    Calls Try.prog 9 #[.slice p n c, .int .i64 wh] w (OneB true w) := by
  have HWH := Lib.hid hwh
  clear hwh
  have HL := Lib.hid hl
  have HN := Lib.hid hn
  have HW := Lib.hid hw
  clear hl hn hw
  go_enter Try.func9, Try.ntmps9
  go_wp2_with fail
  refine (awake_any _).mono ?_
  rintro e wa ⟨rfl, hba⟩
  have HBA := Lib.hid hba
  clear hba
  go_wp2_with fail
  refine (fit_lit (LAt.bel HL.out HBA.out) HN.out HW.out).mono ?_
  rintro e wf ⟨p2, n2, c2, rfl, hbf, hef⟩
  have HSM := Lib.hid (fit_small raw)
  generalize fitV raw = l at hef HSM
  have HWF := Lib.hid (HBA.out.trans hbf)
  have HE := Lib.hid hef
  have HN2 : Hid (l.length = n2) := Lib.hid (by have := ERow.n (s := ⟨p2, n2, c2⟩) hef; exact this.symm)
  have HC2 : Hid (n2 ≤ c2) := Lib.hid (ERow.c (s := ⟨p2, n2, c2⟩) hef)
  have hn6 : n2 ≤ 6 := by have := HN2.out; have := HSM.out.len; omega
  have HN5 : Hid (n2 ≤ 5000) := Lib.hid (by omega)
  have HL2 := Lib.hid (ERow.lat (s := ⟨p2, n2, c2⟩) hef)
  clear hbf hef HL HW HN
  by_cases h0 : n2 = 0
  · have h0' : ((n2 : Int) == 0) = true := by simp [h0]
    go_wp2
    go_ret
    exact ⟨rfl, HWF.out⟩
  have h0' : ((n2 : Int) == 0) = false := by simp [h0]
  obtain ⟨k0, hk0⟩ : ∃ y, pick wh (n2 : Int) = y := ⟨_, rfl⟩
  have hkb := pick_bd wh (n := (n2 : Int)) (by omega)
  rw [hk0] at hkb
  obtain ⟨k, rfl⟩ : ∃ k : Nat, k0 = k := ⟨k0.toNat, by omega⟩
  have HK0 := Lib.hid hk0
  have HK : Hid (k < n2) := Lib.hid (by omega)
  have h1n : (1 : Int) ≤ n2 := by omega
  have HBD := HWF
  clear hk0 hkb
  go_wp2_with (go_at_call 14; ((with_reducible refine (pick_lit HK0.out HWH.out h1n _).mono ?_); rintro e wq ⟨rfl, rfl⟩))
  go_loopw [9, 8] (fun i v wr => ∃ (j : Nat) (p3 : Option Addr) (n3 c3 : Nat), j ≤ n2 ∧ i = .int .i64 j ∧ v = .slice p3 n3 c3 ∧ Hid (Bel wf wr) ∧ Hid (ERow encQ 26 4 wr wf.heap.size (.slice p3 n3 c3) (fewK l k j))) (fun i _ _ => n2 - (intOf i).toNat)
  case atStart => exact ⟨0, none, 0, 0, Nat.zero_le _, rfl, rfl, Lib.hid (Bel.refl _), Lib.hid (by rw [show fewK l k 0 = [] by unfold fewK; simp]; exact ERow.nil _ _ _ _ _)⟩
  case round =>
    obtain ⟨j, p3, n3, c3, hj, rfl, rfl, HB, HF⟩ := hrel
    by_cases hlt : j < n2
    · have hjl : j < l.length := by have := HN2.out; omega
      have HJL := Lib.hid hjl
      obtain ⟨b, o, rfl, hb, hc⟩ := LAt.get (LAt.bel HL2.out HB.out) (i0 := j) hjl
      obtain ⟨c0, c1, c2', c3'⟩ := hc j hjl
      have hjn : (j : Int) < n2 := by omega
      have HX : Hid (ev l j = ((ev l j).1, (ev l j).2.1, (ev l j).2.2.1, (ev l j).2.2.2)) := Lib.hid rfl
      obtain ⟨x1, hx1⟩ : ∃ x, (ev l j).2.1 = x := ⟨_, rfl⟩
      have HX1 := Lib.hid hx1
      by_cases hjk : j = k
      · have hjk' : ((j : Int) != (k : Int)) = false := by simp [hjk]
        by_cases hs : x1 = 2
        · have es : (x1 == 2) = true := by simp [hs]
          have HMO := Lib.hid (few_more (k := k) (.inr (by rw [← hjk, HX1.out]; exact hs)) hjl)
          rw [hx1] at c1
          clear hs hjk
          generalize (ev l j).1 = x0 at c0 HX
          generalize (ev l j).2.2.1 = x2 at c2' HX
          generalize (ev l j).2.2.2 = x3 at c3' HX
          rw [hx1] at HX
          obtain ⟨s', w9, hrun, hown, -, hbel, -⟩ := push_one (s := ⟨p3, n3, c3⟩) evTy HF.out (x := ev l j) (cs := #[.int .i64 x0, .int .i64 x1, .int .i64 x2, .int .i64 x3]) (by rw [HX.out]) (c := 1) (by have := few_len l k j; have := HSM.out.len; omega) HB.out.size
          have HRUN := Lib.hid hrun
          have HE9 : Hid (ERow encQ 26 4 w9 wf.heap.size s'.val (fewK l k (j + 1))) := Lib.hid (by rw [HMO.out]; exact hown)
          have HB9 := Lib.hid (hbel _ HB.out rfl)
          clear hrun hown hbel hc hb hx1
          go_wp2_with (at_builtin; refine wpList_app rfl (.tmp 38) (.tmp 43) 22 rfl _ _ _ (by rfl) (by rfl) HRUN.out ?_)
          exact ⟨⟨j + 1, s'.p, s'.n, s'.c, by omega, by go_num, rfl, HB9, HE9⟩, by simp [intOf]; omega⟩
        · have es : (x1 == 2) = false := by simp [hs]
          have HSK := Lib.hid (few_skip (by rw [← hjk, HX1.out]; exact hs) hjk hjl)
          rw [hx1] at c1
          clear hs hjk hc hb c0 c2' c3' hx1
          go_wp2
          exact ⟨⟨j + 1, p3, n3, c3, by omega, by go_num, rfl, HB, Lib.hid (by rw [HSK.out]; exact HF.out)⟩, by simp [intOf]; omega⟩
      · have hjk' : ((j : Int) != (k : Int)) = true := by simp; omega
        have HMO := Lib.hid (few_more (k := k) (.inl hjk) hjl)
        rw [hx1] at c1
        clear hjk
        generalize (ev l j).1 = x0 at c0 HX
        generalize (ev l j).2.2.1 = x2 at c2' HX
        generalize (ev l j).2.2.2 = x3 at c3' HX
        rw [hx1] at HX
        obtain ⟨s', w9, hrun, hown, -, hbel, -⟩ := push_one (s := ⟨p3, n3, c3⟩) evTy HF.out (x := ev l j) (cs := #[.int .i64 x0, .int .i64 x1, .int .i64 x2, .int .i64 x3]) (by rw [HX.out]) (c := 1) (by have := few_len l k j; have := HSM.out.len; omega) HB.out.size
        have HRUN := Lib.hid hrun
        have HE9 : Hid (ERow encQ 26 4 w9 wf.heap.size s'.val (fewK l k (j + 1))) := Lib.hid (by rw [HMO.out]; exact hown)
        have HB9 := Lib.hid (hbel _ HB.out rfl)
        clear hrun hown hbel hc hb hx1
        go_wp2_with (at_builtin; refine wpList_app rfl (.tmp 38) (.tmp 43) 22 rfl _ _ _ (by rfl) (by rfl) HRUN.out ?_)
        exact ⟨⟨j + 1, s'.p, s'.n, s'.c, by omega, by go_num, rfl, HB9, HE9⟩, by simp [intOf]; omega⟩
    · obtain rfl : j = n2 := by omega
      have HFE : Hid (fewK l k j = fewK l k l.length) := Lib.hid (by rw [HN2.out])
      have HN3 : Hid ((fewK l k l.length).length = n3) := Lib.hid (by have := ERow.n (s := ⟨p3, n3, c3⟩) HF.out; rw [← HFE.out]; exact this.symm)
      have HC3 : Hid (n3 ≤ c3) := Lib.hid (ERow.c (s := ⟨p3, n3, c3⟩) HF.out)
      have HN35 : Hid (n3 ≤ 5000) := Lib.hid (by have := few_len l k l.length; have := HN3.out; have := HSM.out.len; omega)
      have HL3 : Hid (LAt wr p3 (fewK l k l.length)) := Lib.hid (by rw [← HFE.out]; exact ERow.lat (s := ⟨p3, n3, c3⟩) HF.out)
      obtain ⟨a, ha⟩ : ∃ a, allowed l = a := ⟨_, rfl⟩
      have HA := Lib.hid ha
      cases a
      · clear ha
        go_wp2_with fail
        refine (allowed_lit (LAt.bel HL2.out HB.out) HN2.out HC2.out HN5.out HA.out).mono ?_
        rintro e w5 ⟨rfl, hb5⟩
        have HB5 := Lib.hid (HB.out.trans hb5)
        clear hb5
        go_wp2
        go_ret
        exact ⟨rfl, HWF.out.trans HB5.out⟩
      · have HAF := Lib.hid (few_allowed (k := k) (by have := HN2.out; have := HK.out; omega) ha)
        clear ha
        go_wp2_with fail
        refine (allowed_lit (LAt.bel HL2.out HB.out) HN2.out HC2.out HN5.out HA.out).mono ?_
        rintro e w5 ⟨rfl, hb5⟩
        have HB5 := Lib.hid hb5
        clear hb5
        go_wp2_with fail
        refine (allowed_lit (LAt.bel HL3.out HB5.out) HN3.out HC3.out HN35.out HAF.out).mono ?_
        rintro e w6 ⟨rfl, hb6⟩
        have HB6 := Lib.hid (HB5.out.trans hb6)
        clear hb6
        go_wp2
        go_ret
        exact ⟨rfl, HWF.out.trans (HB.out.trans HB6.out)⟩
end Go.Proofs.Ytigefdoejcggpaa
