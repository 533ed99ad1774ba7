/- Package syntax: Print at any program. -/
import Derived.Test.YthlnjnmomnpnpaaGreatDoorYProg
namespace Go.Proofs.YthlnjnmomnpnpaaGreatDoor
open Go.RowKit Tk Sy
set_option linter.unusedVariables false
set_option linter.unusedSimpArgs false
theorem lineT_ne (k : Nat) (ps : List Bs) : lineT k ps ≠ [] := by
  unfold lineT
  intro h
  have := (List.append_eq_nil_iff.1 h).2
  cases this
theorem prgK_ne (d k : Nat) (p : Prg) : prgK d k p ≠ [] := by
  unfold prgK
  intro h
  exact lineT_ne _ _ (List.append_eq_nil_iff.1 (List.append_eq_nil_iff.1 (List.append_eq_nil_iff.1 h).1).1).1
set_option maxRecDepth 100000 in
set_option maxHeartbeats 8000000 in
theorem Print_k {d k : Nat} (hk : k = 0) (hd : d ≤ 900) {p : Prg} {T : ByteArray} (hT : str (prgK d k p) = T) (hr : right p = true) (hok : PrgOk d p) (w : World) {q1 q2 q3 : Option Addr} {c1 c2 c3 : Nat} (hE : PrgAt w q1 q2 q3 p) (hX : Texts w) (hP : PowAt w) (hlen : (prgK d k p).length ≤ 70368744177664) :
    Calls Tryz.prog 8 #[prgV q1 c1 q2 c2 q3 c3 p] w fun r w' => r = .returned (.tuple #[.string T, .int .i64 0]) ∧ Bel w w' := by
  have hlen2 : ([] : Bs).length + (prgK d k p).length ≤ 70368744177664 := by show 0 + _ ≤ _; omega
  have hne := prgK_ne d k p
  have HE := Lib.hid hE
  have HX := Lib.hid hX
  have HP := Lib.hid hP
  have HOK := Lib.hid hok
  have HR := Lib.hid hr
  have HT := Lib.hid hT
  have HF : Hid (∀ W : World, StP W W.heap.size [] (k : Int) (W.alloc (.cells #[.pointer none, .slice none 0 0, .int .i64 0] 74))) := Lib.hid (fun W => by subst hk; exact fresh_st W)
  have HD : Hid (k + 1 + d ≤ 1000) := Lib.hid (by omega)
  clear hE hX hP hok hr hT hk hd hlen
  go_enter Tryz.func8, Tryz.ntmps8
  go_upto_region 1 with (fail)
  have hb1 := (Bel.refl w).alloc (prgA q1 c1 q2 c2 q3 c3 p) 28
  have hx1 := heap_alloc_new w (.cells (prgA q1 c1 q2 c2 q3 c3 p) 28)
  generalize w.alloc (.cells (prgA q1 c1 q2 c2 q3 c3 p) 28) = W1 at hb1 hx1 ⊢
  generalize w.heap.size = g1 at hx1 ⊢
  have HB1 := Lib.hid hb1
  have HX1 := Lib.hid hx1
  have m0 := cell_of_heap hx1 0
  have m1 := cell_of_heap hx1 1
  have m2 := cell_of_heap hx1 2
  have m3 := cell_of_heap hx1 3
  simp only [List.getElem?_toArray, List.getElem?_cons_zero, List.getElem?_cons_succ] at m0 m1 m2 m3
  clear hb1 hx1
  go_wp2_with fail
  refine (right_lit HR.out _ (Lib.hid (HE.out.bel HB1.out))).mono ?_
  rintro r W2 ⟨rfl, hb⟩
  have HB2 := Lib.hid (HB1.out.trans hb)
  have HX2 := Lib.hid (hb.stays HX1.out)
  clear hb m0 m1 m2 m3
  go_upto_region 4 with (fail)
  have HST := Lib.hid (HF.out W2)
  have HB3 := Lib.hid HST.out.bel
  generalize W2.alloc (.cells #[.pointer none, .slice none 0 0, .int .i64 0] 74) = W3 at HST HB3 ⊢
  have hx3 := HB3.out.stays HX2.out
  have m0 := cell_of_heap hx3 0
  have m1 := cell_of_heap hx3 1
  have m2 := cell_of_heap hx3 2
  have m3 := cell_of_heap hx3 3
  simp only [List.getElem?_toArray, List.getElem?_cons_zero, List.getElem?_cons_succ] at m0 m1 m2 m3
  clear hx3
  go_wp2_with fail
  refine (program_ok p HOK.out W2 _ q1 q2 q3 c1 c2 c3 _ [] k (HE.out.bel HB2.out) (HX.out.bel HB2.out) (HP.out.bel HB2.out) HST.out HD.out hlen2).mono ?_
  rintro r W4 ⟨rfl, hst, hpv⟩
  have HS4 := Lib.hid hst
  clear hst hpv m0 m1 m2 m3
  go_wp2_with fail
  refine (str_st HS4.out hne).mono ?_
  rintro r W5 ⟨rfl, hb⟩
  have HB5 := Lib.hid (HB2.out.trans hb)
  clear hb
  go_wp2_with fail
  go_ret2
  exact ⟨congrArg (fun s => Ending.returned (.tuple #[.string s, .int .i64 0])) HT.out, HB5.out⟩
theorem Print_yes {p : Prg} {T : ByteArray} (hT : str (prgT p) = T) (hr : right p = true) (w : World) {q1 q2 q3 : Option Addr} {c1 c2 c3 : Nat} (hE : PrgAt w q1 q2 q3 p) (hX : Texts w) (hP : PowAt w) (hlen : (prgT p).length ≤ 70368744177664) :
    Calls Tryz.prog 8 #[prgV q1 c1 q2 c2 q3 c3 p] w fun r w' => r = .returned (.tuple #[.string T, .int .i64 0]) ∧ Bel w w' :=
  Print_k (d := 30) (k := 0) rfl (by decide) (by rw [← hT, prg_eq]) hr (prgOk_of hr) w hE hX hP (by rw [prg_eq] at hlen; exact hlen)
set_option maxRecDepth 100000 in
set_option maxHeartbeats 8000000 in
theorem Print_no {p : Prg} (hr : right p = false) (w : World) {q1 q2 q3 : Option Addr} {c1 c2 c3 : Nat} (hE : PrgAt w q1 q2 q3 p) :
    Calls Tryz.prog 8 #[prgV q1 c1 q2 c2 q3 c3 p] w fun r w' => r = .returned (.tuple #[.string ⟨#[]⟩, .int .i64 1]) ∧ Bel w w' := by
  have HE := Lib.hid hE
  have HR := Lib.hid hr
  clear hE hr
  go_enter Tryz.func8, Tryz.ntmps8
  go_upto_region 1 with (fail)
  have hb1 := (Bel.refl w).alloc (prgA q1 c1 q2 c2 q3 c3 p) 28
  have hx1 := heap_alloc_new w (.cells (prgA q1 c1 q2 c2 q3 c3 p) 28)
  generalize w.alloc (.cells (prgA q1 c1 q2 c2 q3 c3 p) 28) = W1 at hb1 hx1 ⊢
  generalize w.heap.size = g1 at hx1 ⊢
  have HB1 := Lib.hid hb1
  have m0 := cell_of_heap hx1 0
  have m1 := cell_of_heap hx1 1
  have m2 := cell_of_heap hx1 2
  have m3 := cell_of_heap hx1 3
  simp only [List.getElem?_toArray, List.getElem?_cons_zero, List.getElem?_cons_succ] at m0 m1 m2 m3
  clear hb1 hx1
  go_wp2_with fail
  refine (right_lit HR.out _ (Lib.hid (HE.out.bel HB1.out))).mono ?_
  rintro r W2 ⟨rfl, hb⟩
  have HB2 := Lib.hid (HB1.out.trans hb)
  clear hb m0 m1 m2 m3
  go_wp2_with fail
  go_ret2
  exact ⟨rfl, HB2.out⟩
end Go.Proofs.YthlnjnmomnpnpaaGreatDoor
