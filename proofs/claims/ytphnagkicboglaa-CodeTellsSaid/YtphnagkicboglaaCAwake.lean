/- The laws' first calls (awake) answer true, over package code's contracts. -/
import Derived.Test.YtphnagkicboglaaCBeyond
namespace Go.Proofs.Ytphnagkicboglaa
open Go.RowKit Rv
theorem reads_len (hR : ReadsIs) {i_o i_d i_a i_b i_n : Int} {n : Nat} (hw : Ins.wf ⟨i_o, i_d, i_a, i_b, i_n⟩) (h : (readsL ⟨i_o, i_d, i_a, i_b, i_n⟩).length = n) (w : World) :
    Calls Try.prog 20 #[.agg #[.int .i64 i_o, .int .i64 i_d, .int .i64 i_a, .int .i64 i_b, .int .i64 i_n]] w fun e w' => (∃ p c, e = .returned (.slice p n c)) ∧ Both w w' := by
  refine (hR ⟨i_o, i_d, i_a, i_b, i_n⟩ w hw).mono fun e w' hr => ?_
  obtain ⟨p, c, he, _, hb⟩ := hr
  rw [h] at he
  exact ⟨⟨p, c, he⟩, hb⟩
theorem dec_none_of {z : Int} (h : (dec z).isNone = true) : decV z = zeroI ∧ decE z = 20 := by
  have e : dec z = none := Option.isNone_iff_eq_none.1 h
  exact ⟨by unfold decV; rw [e]; rfl, by unfold decE; rw [e]; rfl⟩
theorem wf_small {i : Ins} (h : decide (-1000 ≤ i.op ∧ i.op ≤ 1000 ∧ -1000 ≤ i.d ∧ i.d ≤ 1000 ∧ -1000 ≤ i.a ∧ i.a ≤ 1000 ∧ -1000 ≤ i.b ∧ i.b ≤ 1000 ∧ -1000 ≤ i.n ∧ i.n ≤ 1000) = true) : Ins.wf i := by
  obtain ⟨h1, h2, h3, h4, h5, h6, h7, h8, h9, h10⟩ := of_decide_eq_true h
  exact ⟨⟨by omega, by omega⟩, ⟨by omega, by omega⟩, ⟨by omega, by omega⟩, ⟨by omega, by omega⟩, ⟨by omega, by omega⟩⟩
set_option maxHeartbeats 4000000 in
theorem awake_is (hE : EncodeIs) (hD : DecodeIs) (hR : RightIs) (hN : NameIs) (hL : ReadsIs) (hW : WritesIs) : AwakeIs := by
  intro w
  have d0 := dec_none_of (z := 0) (by decide +kernel)
  have rJ : right ⟨3, 0, 0, 0, 8⟩ = true := by decide +kernel
  have eJ : enc ⟨3, 0, 0, 0, 8⟩ = 8388719 := by decide +kernel
  have dJ : decV 8388719 = ⟨3, 0, 0, 0, 8⟩ := by rw [← eJ]; exact decV_enc rJ
  have dJ0 : decE 8388719 = 0 := by rw [← eJ]; exact decE_enc rJ
  have D0 := Lib.hid d0
  have RJ := Lib.hid rJ
  have DJ := Lib.hid dJ
  have DJ0 := Lib.hid dJ0
  clear d0 rJ eJ dJ dJ0
  go_enter Try.func11, Try.ntmps11
  go_wp2_with fail
  refine (enc_lit hE (v := 4293984403) (u := 0) (wf_small (by decide)) (by decide +kernel) (by decide +kernel) _).mono ?_
  rintro e W1 ⟨rfl, hb⟩
  have B1 := Lib.hid hb
  clear hb
  go_wp2_with fail
  refine (enc_lit hE (v := 4261416675) (u := 0) (wf_small (by decide)) (by decide +kernel) (by decide +kernel) _).mono ?_
  rintro e W2 ⟨rfl, hb⟩
  have B2 := Lib.hid (B1.out.trans hb)
  clear hb B1
  go_wp2_with fail
  refine (dec_lit hD ⟨by omega, by omega⟩ DJ.out DJ0.out _).mono ?_
  rintro e W3 ⟨rfl, hb⟩
  have B3 := Lib.hid (B2.out.trans hb)
  clear hb B2
  go_wp2_with fail
  refine (dec_lit hD ⟨by omega, by omega⟩ D0.out.1 D0.out.2 _).mono ?_
  rintro e W4 ⟨rfl, hb⟩
  have B4 := Lib.hid ((B3.out.alloc _ _).trans hb)
  have S := Lib.hid ((Has5.new W3 23 _ _ _ _ _).both hb)
  clear hb B3
  go_wp2_with fail
  refine (reads_len hL (n := 2) (wf_small (by decide)) (by decide +kernel) _).mono ?_
  rintro e W5 ⟨⟨p, c, rfl⟩, hb⟩
  have B5 := Lib.hid ((B4.out.alloc _ _).trans hb)
  have sX := (S.out.alloc _ _).both hb
  clear hb B4 S
  have S := Lib.hid sX
  obtain ⟨l, c0, c1, c2, c3, c4⟩ := sX
  go_wp2_with fail
  refine (name_lit hN (s := ⟨#[115, 99, 46, 119]⟩) ⟨by omega, by omega⟩ rfl _).mono ?_
  rintro e W6 ⟨rfl, hb⟩
  clear l c0 c1 c2 c3 c4
  have B6 := Lib.hid (B5.out.trans hb)
  have sX := S.out.both hb
  clear hb B5 S
  have S := Lib.hid sX
  obtain ⟨l, c0, c1, c2, c3, c4⟩ := sX
  go_wp2_with fail
  refine (writes_lit hW (d := 0) (wf_small (by decide)) (by decide +kernel) _).mono ?_
  rintro e W7 ⟨rfl, hb⟩
  clear l c0 c1 c2 c3 c4
  have B7 := Lib.hid (B6.out.trans hb)
  have sX := S.out.both hb
  clear hb B6 S
  obtain ⟨l, c0, c1, c2, c3, c4⟩ := sX
  go_wp2_with fail
  refine (right_lit hR (wf_small (by decide)) RJ.out _).mono ?_
  rintro e W8 ⟨rfl, hb⟩
  have B8 := Lib.hid (B7.out.trans hb)
  clear hb B7
  go_wp2_with fail
  go_ret
  exact ⟨rfl, B8.out⟩
end Go.Proofs.Ytphnagkicboglaa
