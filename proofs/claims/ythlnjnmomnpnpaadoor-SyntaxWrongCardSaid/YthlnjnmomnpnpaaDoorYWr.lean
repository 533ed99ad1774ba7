/- SyntaxWrong's walk. -/
import Derived.Test.YthlnjnmomnpnpaaDoorYPg
import Derived.Test.YthlnjnmomnpnpaaDoorYAwk
import Derived.Test.YthlnjnmomnpnpaaDoorYMore
import Derived.Test.YthlnjnmomnpnpaaDoorYPrint
namespace Go.Proofs.YthlnjnmomnpnpaaDoor
open Go.RowKit Tk Sy
set_option linter.unusedVariables false
set_option linter.unusedSimpArgs false
theorem wprog_lit {raw : List Int} {all : Bool} {n : Nat} {P : Prg} (hP : progV raw all = P) (hn : raw.length = n) (w : World) {p : Option Addr} {cp : Nat} (hr : RawAt w p raw) (hcp : n ≤ cp) (hn63 : n ≤ 9223372036854775807) :
    Calls Tryd.prog 9 #[.slice p n cp, .bool all] w fun e w' => ∃ q1 c1 q2 c2 q3 c3, e = .returned (prgV q1 c1 q2 c2 q3 c3 P) ∧ ProgAt w w' P q1 q2 q3 c3 := by
  subst hP
  exact prog_any hn w hr hcp hn63
theorem wbox_new (W : World) (cs : Array Value) (T : TypeId) : Bel W (W.alloc (.cells cs T)) ∧ (W.alloc (.cells cs T)).heap[W.heap.size]? = some (.cells cs T (0, 0)) := ⟨(Bel.refl W).alloc _ _, heap_alloc_new W _⟩
abbrev oneC : Array Value := #[.int .i64 1, .int .i64 0, .int .i64 1, .string ⟨#[]⟩, .slice none 0 0]
theorem wtasks_pos (raw : List Int) (all : Bool) : 0 < (progV raw all).tasks.length := by
  have h := (all2_ok (raw.take 400) all).2.1
  have h2 := (harts_bd (raw.take 400)).1
  show 0 < (all2 (raw.take 400) all).1.length
  omega
/-- a raw number picks a natural one -/
theorem nx_nat (c : Int) {n : Nat} (h : 0 < n) : ∃ k : Nat, k < n ∧ Tk.pick c (n : Int) = (k : Int) := by
  have hb := Tk.pick_bd c (n := (n : Int)) (by omega)
  exact ⟨(Tk.pick c (n : Int)).toNat, by omega, by omega⟩
/-- what is young, but one block -/
abbrev ymask (M g : Nat) (w : World) : World := maskP (fun k => decide (k < M) || k == g) w
theorem sub_ymask {W W' : World} {M g : Nat} (hb : Bel W W') (hg : W.heap.size ≤ g) : Sub (young M W) (ymask M g W') := ⟨by rw [maskP_size, maskP_size]; exact hb.size, fun a v ha hv => by
  obtain ⟨h1, h2⟩ := maskP_yes hv
  rw [maskP_size] at ha
  rw [maskP_cell W' (by simp at h1 ⊢; omega)]
  exact (hb.cell ha).trans h2⟩
theorem ymask_mask {W W' : World} {M g b : Nat} (hb : Bel W W') (hg : b < M) : Sub (ymask M g W) (mask b W') := ⟨by rw [maskP_size, maskP_size]; exact hb.size, fun a v ha hv => by
  obtain ⟨h1, h2⟩ := maskP_yes hv
  rw [maskP_size] at ha
  rw [maskP_cell W' (by simp at h1 ⊢; omega)]
  exact (hb.cell ha).trans h2⟩
theorem ymask_sv {W W' : World} {M g : Nat} (hs : Svg g W W') : Sub (ymask M g W) (ymask M g W') := (Sv.maskP hs (fun k hk _ => by subst hk; simp)).sub
theorem ymask_heap {W : World} {M g k : Nat} {o : Obj} (h : W.heap[k]? = some o) (hk : M ≤ k) (hg : k ≠ g) : (ymask M g W).heap[k]? = some o := (maskP_other W (by simp; exact ⟨hk, hg⟩)).trans h
def bigE : Ex := .mk 1 0 4294967296 ⟨#[]⟩ []
def badP (a b c d e f : Nat) : List PS := [⟨.mk 0 ⟨#[]⟩ ⟨#[]⟩ 0 [] [] [], none, 0, none, 0, none, 0⟩, ⟨.mk 9 ⟨#[]⟩ ⟨#[]⟩ 0 [] [] [], none, 0, none, 0, none, 0⟩, ⟨.mk 8 ⟨#[]⟩ ⟨#[]⟩ 1 [] [] [], none, 0, none, 0, none, 0⟩,
  ⟨.mk 1 ⟨#[120]⟩ ⟨#[]⟩ 0 [] [] [], none, 0, none, 0, none, 0⟩, ⟨.mk 1 ⟨#[105, 102]⟩ ⟨#[]⟩ 0 [numOne] [] [], some ⟨a, 0, none⟩, 1, none, 0, none, 0⟩, ⟨.mk 2 ⟨#[120]⟩ ⟨#[100]⟩ 4 [] [] [], none, 0, none, 0, none, 0⟩,
  ⟨.mk 3 ⟨#[100]⟩ ⟨#[]⟩ (-1) [numOne] [] [], some ⟨b, 0, none⟩, 1, none, 0, none, 0⟩, ⟨.mk 4 ⟨#[114, 97]⟩ ⟨#[]⟩ 0 [numOne] [] [], some ⟨c, 0, none⟩, 1, none, 0, none, 0⟩, ⟨.mk 5 ⟨#[114, 97]⟩ ⟨#[]⟩ 0 [] [] [haltS], none, 0, none, 0, some ⟨d, 0, none⟩, 1⟩,
  ⟨.mk 7 ⟨#[]⟩ ⟨#[]⟩ 21 [] [] [], none, 0, none, 0, none, 0⟩, ⟨.mk 6 ⟨#[]⟩ ⟨#[]⟩ 0 [bigE] [] [], some ⟨e, 0, none⟩, 1, none, 0, none, 0⟩, ⟨.mk 1 ⟨#[120]⟩ ⟨#[100]⟩ 0 [numOne] [] [], some ⟨f, 0, none⟩, 1, none, 0, none, 0⟩]
theorem bad_x {a b c d e f i : Nat} {x : PS} (h : (badP a b c d e f)[i]? = some x) : x.x = bads.getD i haltS := by
  have e1 : (badP a b c d e f).map PS.x = bads := rfl
  rw [← e1, List.getD_eq_getElem?_getD, List.getElem?_map, h]
  rfl
theorem bad_enc {W : World} {a b c d e f g : Nat} (h : W.heap[g]? = some (.cells ((badP a b c d e f).flatMap encS).toArray 46 (0, 0))) : EncAt encS 7 W (some ⟨g, 0, none⟩) (badP a b c d e f) := fun j x hj => ⟨g, 0, rfl, lt_of_heap h, fun i v hv => by
  rw [cell_of_heap h, List.getElem?_toArray, Nat.zero_add]
  exact flat_get stmtTy.len hj hv⟩
theorem wfE_num1 : WfE numOne := ⟨⟨by decide, by decide⟩, ⟨by decide, by decide⟩, ⟨by decide, by decide⟩, by unfold maxLen; decide, by decide⟩
theorem wfE_big : WfE bigE := ⟨⟨by decide, by decide⟩, ⟨by decide, by decide⟩, ⟨by decide, by decide⟩, by unfold maxLen; decide, by decide⟩
theorem wfS_halt : WfS haltS := ⟨⟨by decide, by decide⟩, ⟨by decide, by decide⟩, Nat.zero_le _, Nat.zero_le _, Nat.zero_le _, Nat.zero_le _, Nat.zero_le _⟩
theorem wfS_of {k n : Int} {a b : ByteArray} {xs : List Ex} {t e : List St} (h1 : inI k) (h2 : inI n) (h3 : a.size ≤ maxLen) (h4 : b.size ≤ maxLen) (h5 : xs.length ≤ 9223372036854775807) (h6 : t.length ≤ 9223372036854775807) (h7 : e.length ≤ 9223372036854775807) : WfS (.mk k a b n xs t e) := ⟨h1, h2, h3, h4, h5, h6, h7⟩
theorem bad_ok {W : World} {M a b c d e f : Nat} (ha : M ≤ a) (hb : M ≤ b) (hc : M ≤ c) (hd : M ≤ d) (he : M ≤ e) (hf : M ≤ f) (n0 : W.heap[a]? = some (.cells (exA none 0 numOne) 35 (0, 0))) (n1 : W.heap[b]? = some (.cells (exA none 0 numOne) 35 (0, 0))) (n2 : W.heap[c]? = some (.cells (exA none 0 numOne) 35 (0, 0))) (n3 : W.heap[d]? = some (.cells #[.int .i64 8, .string ⟨#[]⟩, .string ⟨#[]⟩, .int .i64 0, .slice none 0 0, .slice none 0 0, .slice none 0 0] 46 (0, 0)))
    (n4 : W.heap[e]? = some (.cells (exA none 0 bigE) 35 (0, 0))) (n5 : W.heap[f]? = some (.cells (exA none 0 numOne) 35 (0, 0))) : ∀ x ∈ badP a b c d e f, PSok (young M W) x := by
  have ea := EAt.one (young_heap n0 ha) wfE_num1 (EAt.nil _ _)
  have eb := EAt.one (young_heap n1 hb) wfE_num1 (EAt.nil _ _)
  have ec := EAt.one (young_heap n2 hc) wfE_num1 (EAt.nil _ _)
  have ee := EAt.one (young_heap n4 he) wfE_big (EAt.nil _ _)
  have ef := EAt.one (young_heap n5 hf) wfE_num1 (EAt.nil _ _)
  have ed : SAt (young M W) (some ⟨d, 0, none⟩) [haltS] := SAt.one (s := haltS) (young_heap n3 hd) wfS_halt (EAt.nil _ _) (SAt.nil _ _) (SAt.nil _ _)
  intro x hx
  simp only [badP, List.mem_cons, List.not_mem_nil, or_false] at hx
  rcases hx with rfl | rfl | rfl | rfl | rfl | rfl | rfl | rfl | rfl | rfl | rfl | rfl
  all_goals refine ⟨wfS_of ⟨by decide, by decide⟩ ⟨by decide, by decide⟩ (by unfold maxLen; decide) (by unfold maxLen; decide) (by decide) (by decide) (by decide), ?_, ?_, ?_⟩
  all_goals first
    | exact EAt.nil _ _
    | exact SAt.nil _ _
    | exact ea
    | exact eb
    | exact ec
    | exact ed
    | exact ee
    | exact ef
theorem seven_new (w : World) (c0 c1 c2 c3 c4 c5 c6 : Array Value) (t0 t1 t2 t3 t4 t5 t6 : TypeId) : Bel w (((((((w.alloc (.cells c0 t0)).alloc (.cells c1 t1)).alloc (.cells c2 t2)).alloc (.cells c3 t3)).alloc (.cells c4 t4)).alloc (.cells c5 t5)).alloc (.cells c6 t6)) ∧
    (((((((w.alloc (.cells c0 t0)).alloc (.cells c1 t1)).alloc (.cells c2 t2)).alloc (.cells c3 t3)).alloc (.cells c4 t4)).alloc (.cells c5 t5)).alloc (.cells c6 t6)).heap[w.heap.size]? = some (.cells c0 t0 (0, 0)) ∧
    (((((((w.alloc (.cells c0 t0)).alloc (.cells c1 t1)).alloc (.cells c2 t2)).alloc (.cells c3 t3)).alloc (.cells c4 t4)).alloc (.cells c5 t5)).alloc (.cells c6 t6)).heap[w.heap.size + 1]? = some (.cells c1 t1 (0, 0)) ∧
    (((((((w.alloc (.cells c0 t0)).alloc (.cells c1 t1)).alloc (.cells c2 t2)).alloc (.cells c3 t3)).alloc (.cells c4 t4)).alloc (.cells c5 t5)).alloc (.cells c6 t6)).heap[w.heap.size + 1 + 1]? = some (.cells c2 t2 (0, 0)) ∧
    (((((((w.alloc (.cells c0 t0)).alloc (.cells c1 t1)).alloc (.cells c2 t2)).alloc (.cells c3 t3)).alloc (.cells c4 t4)).alloc (.cells c5 t5)).alloc (.cells c6 t6)).heap[w.heap.size + 1 + 1 + 1]? = some (.cells c3 t3 (0, 0)) ∧
    (((((((w.alloc (.cells c0 t0)).alloc (.cells c1 t1)).alloc (.cells c2 t2)).alloc (.cells c3 t3)).alloc (.cells c4 t4)).alloc (.cells c5 t5)).alloc (.cells c6 t6)).heap[w.heap.size + 1 + 1 + 1 + 1]? = some (.cells c4 t4 (0, 0)) ∧
    (((((((w.alloc (.cells c0 t0)).alloc (.cells c1 t1)).alloc (.cells c2 t2)).alloc (.cells c3 t3)).alloc (.cells c4 t4)).alloc (.cells c5 t5)).alloc (.cells c6 t6)).heap[w.heap.size + 1 + 1 + 1 + 1 + 1]? = some (.cells c5 t5 (0, 0)) ∧
    (((((((w.alloc (.cells c0 t0)).alloc (.cells c1 t1)).alloc (.cells c2 t2)).alloc (.cells c3 t3)).alloc (.cells c4 t4)).alloc (.cells c5 t5)).alloc (.cells c6 t6)).heap[w.heap.size + 1 + 1 + 1 + 1 + 1 + 1]? = some (.cells c6 t6 (0, 0)) := by
  have h0 := heap_alloc_new w (.cells c0 t0)
  have h1 := heap_alloc_new (w.alloc (.cells c0 t0)) (.cells c1 t1)
  have h2 := heap_alloc_new ((w.alloc (.cells c0 t0)).alloc (.cells c1 t1)) (.cells c2 t2)
  have h3 := heap_alloc_new (((w.alloc (.cells c0 t0)).alloc (.cells c1 t1)).alloc (.cells c2 t2)) (.cells c3 t3)
  have h4 := heap_alloc_new ((((w.alloc (.cells c0 t0)).alloc (.cells c1 t1)).alloc (.cells c2 t2)).alloc (.cells c3 t3)) (.cells c4 t4)
  have h5 := heap_alloc_new (((((w.alloc (.cells c0 t0)).alloc (.cells c1 t1)).alloc (.cells c2 t2)).alloc (.cells c3 t3)).alloc (.cells c4 t4)) (.cells c5 t5)
  have h6 := heap_alloc_new ((((((w.alloc (.cells c0 t0)).alloc (.cells c1 t1)).alloc (.cells c2 t2)).alloc (.cells c3 t3)).alloc (.cells c4 t4)).alloc (.cells c5 t5)) (.cells c6 t6)
  simp only [World.size_alloc] at h1 h2 h3 h4 h5 h6
  exact ⟨((((((((Bel.refl w).alloc _ _).alloc _ _).alloc _ _).alloc _ _).alloc _ _).alloc _ _).alloc _ _), (((((((Bel.refl _).alloc _ _).alloc _ _).alloc _ _).alloc _ _).alloc _ _).alloc _ _).stays h0, ((((((Bel.refl _).alloc _ _).alloc _ _).alloc _ _).alloc _ _).alloc _ _).stays h1, (((((Bel.refl _).alloc _ _).alloc _ _).alloc _ _).alloc _ _).stays h2, ((((Bel.refl _).alloc _ _).alloc _ _).alloc _ _).stays h3, (((Bel.refl _).alloc _ _).alloc _ _).stays h4, ((Bel.refl _).alloc _ _).stays h5, h6⟩
set_option maxRecDepth 100000 in
set_option maxHeartbeats 8000000 in
theorem wrong_walk {raw : List Int} {n : Nat} {x1 x2 x3 : Int} (w : World) {p : Option Addr} {c : Nat} (hn : raw.length = n) (hr : RawAt w p raw) (hc : n ≤ c) (h6 : n ≤ 9223372036854775807) (i1 : inInt x1) (i2 : inInt x2) (i3 : inInt x3) (hX : Texts w) (hPw : PowAt w) :
    Calls Tryd.prog 5 #[.slice p n c, .int .i64 x1, .int .i64 x2, .int .i64 x3] w fun e w' => e = .returned (.bool true) ∧ Bel w w' := by
  obtain ⟨P, hP⟩ : ∃ P, progV raw false = P := ⟨_, rfl⟩
  have hrp : right P = true := by rw [← hP]; exact prog_right _ _
  have HP := Lib.hid hP
  have HRP := Lib.hid hrp
  have HN := Lib.hid hn
  have H1 := Lib.hid hr
  have HC := Lib.hid (And.intro hc h6)
  have HX := Lib.hid hX
  have HPW := Lib.hid hPw
  have HI1 := Lib.hid i1
  have HI2 := Lib.hid i2
  have HI3 := Lib.hid i3
  clear hP hrp hn hr hc h6 hX hPw i1 i2 i3
  go_enter Tryd.func5, Tryd.ntmps5
  go_wp2_with fail
  refine (awake_any _ HX.out HPW.out).mono ?_
  rintro e w1 ⟨rfl, hb⟩
  have HB1 := Lib.hid hb
  clear hb
  go_wp2_with fail
  refine (wprog_lit HP.out HN.out w1 (H1.out.bel HB1.out) HC.out.1 HC.out.2).mono ?_
  rintro e w2 ⟨a1, b1, a2, b2, a3, b3, rfl, hp⟩
  have HM := Lib.hid hp
  have HB := Lib.hid (HB1.out.trans hp.bel)
  clear hp
  go_upto_region 3 with (fail)
  obtain ⟨nb, nx⟩ := wbox_new w2 (prgA a1 b1 a2 b2 a3 b3 P) 28
  generalize w2.alloc (.cells (prgA a1 b1 a2 b2 a3 b3 P) 28) = W6 at nb nx ⊢
  generalize w2.heap.size = g10 at nx ⊢
  have HXP := Lib.hid nx
  have HG10 : Hid (g10 < W6.heap.size) := Lib.hid (lt_of_heap nx)
  have HM := Lib.hid (HM.out.later nb)
  have HB := Lib.hid (HB.out.trans nb)
  clear nb nx
  go_upto_region 4 with (fail)
  obtain ⟨nb, nx⟩ := wbox_new W6 oneC 35
  generalize W6.alloc (.cells #[.int .i64 1, .int .i64 0, .int .i64 1, .string ⟨#[]⟩, .slice none 0 0] 35) = W7 at nb nx ⊢
  generalize W6.heap.size = g11 at nx ⊢
  have HXP := Lib.hid (nb.stays HXP.out)
  have HM := Lib.hid (HM.out.later nb)
  have HB := Lib.hid (HB.out.trans nb)
  have HXO := Lib.hid nx
  obtain ⟨M, hM⟩ : ∃ M, W7.heap.size = M := ⟨_, rfl⟩
  have HMM := Lib.hid hM
  have HB7M : Hid (w.heap.size ≤ M) := Lib.hid (by rw [← hM]; exact HB.out.size)
  have HG10 : Hid (g10 < M) := Lib.hid (by have := HG10.out; have := nb.size; omega)
  clear hM
  have k0 : W7.cell? ⟨g11, 0, none⟩ = some (.int .i64 1) := cell_of_heap nx 0
  have k1 : W7.cell? ⟨g11, 1, none⟩ = some (.int .i64 0) := cell_of_heap nx 1
  have k2 : W7.cell? ⟨g11, 2, none⟩ = some (.int .i64 1) := cell_of_heap nx 2
  have k3 : W7.cell? ⟨g11, 3, none⟩ = some (.string ⟨#[]⟩) := cell_of_heap nx 3
  have k4 : W7.cell? ⟨g11, 4, none⟩ = some (.slice none 0 0) := cell_of_heap nx 4
  clear nb nx
  have q1 : (W7.alloc (.cells #[.int .i64 1, .int .i64 0, .int .i64 1, .string ⟨#[]⟩, .slice none 0 0] 35)).heap[g11]? = some (.cells #[.int .i64 1, .int .i64 0, .int .i64 1, .string ⟨#[]⟩, .slice none 0 0] 35 (0, 0)) := ((Bel.refl W7).alloc _ _).stays HXO.out
  have k10 : (W7.alloc (.cells #[.int .i64 1, .int .i64 0, .int .i64 1, .string ⟨#[]⟩, .slice none 0 0] 35)).cell? ⟨g11, 0, none⟩ = some (.int .i64 1) := cell_of_heap q1 0
  have k11 : (W7.alloc (.cells #[.int .i64 1, .int .i64 0, .int .i64 1, .string ⟨#[]⟩, .slice none 0 0] 35)).cell? ⟨g11, 1, none⟩ = some (.int .i64 0) := cell_of_heap q1 1
  have k12 : (W7.alloc (.cells #[.int .i64 1, .int .i64 0, .int .i64 1, .string ⟨#[]⟩, .slice none 0 0] 35)).cell? ⟨g11, 2, none⟩ = some (.int .i64 1) := cell_of_heap q1 2
  have k13 : (W7.alloc (.cells #[.int .i64 1, .int .i64 0, .int .i64 1, .string ⟨#[]⟩, .slice none 0 0] 35)).cell? ⟨g11, 3, none⟩ = some (.string ⟨#[]⟩) := cell_of_heap q1 3
  have k14 : (W7.alloc (.cells #[.int .i64 1, .int .i64 0, .int .i64 1, .string ⟨#[]⟩, .slice none 0 0] 35)).cell? ⟨g11, 4, none⟩ = some (.slice none 0 0) := cell_of_heap q1 4
  clear q1
  have q2 : ((W7.alloc (.cells #[.int .i64 1, .int .i64 0, .int .i64 1, .string ⟨#[]⟩, .slice none 0 0] 35)).alloc (.cells #[.int .i64 1, .int .i64 0, .int .i64 1, .string ⟨#[]⟩, .slice none 0 0] 35)).heap[g11]? = some (.cells #[.int .i64 1, .int .i64 0, .int .i64 1, .string ⟨#[]⟩, .slice none 0 0] 35 (0, 0)) := (((Bel.refl W7).alloc _ _).alloc _ _).stays HXO.out
  have k20 : ((W7.alloc (.cells #[.int .i64 1, .int .i64 0, .int .i64 1, .string ⟨#[]⟩, .slice none 0 0] 35)).alloc (.cells #[.int .i64 1, .int .i64 0, .int .i64 1, .string ⟨#[]⟩, .slice none 0 0] 35)).cell? ⟨g11, 0, none⟩ = some (.int .i64 1) := cell_of_heap q2 0
  have k21 : ((W7.alloc (.cells #[.int .i64 1, .int .i64 0, .int .i64 1, .string ⟨#[]⟩, .slice none 0 0] 35)).alloc (.cells #[.int .i64 1, .int .i64 0, .int .i64 1, .string ⟨#[]⟩, .slice none 0 0] 35)).cell? ⟨g11, 1, none⟩ = some (.int .i64 0) := cell_of_heap q2 1
  have k22 : ((W7.alloc (.cells #[.int .i64 1, .int .i64 0, .int .i64 1, .string ⟨#[]⟩, .slice none 0 0] 35)).alloc (.cells #[.int .i64 1, .int .i64 0, .int .i64 1, .string ⟨#[]⟩, .slice none 0 0] 35)).cell? ⟨g11, 2, none⟩ = some (.int .i64 1) := cell_of_heap q2 2
  have k23 : ((W7.alloc (.cells #[.int .i64 1, .int .i64 0, .int .i64 1, .string ⟨#[]⟩, .slice none 0 0] 35)).alloc (.cells #[.int .i64 1, .int .i64 0, .int .i64 1, .string ⟨#[]⟩, .slice none 0 0] 35)).cell? ⟨g11, 3, none⟩ = some (.string ⟨#[]⟩) := cell_of_heap q2 3
  have k24 : ((W7.alloc (.cells #[.int .i64 1, .int .i64 0, .int .i64 1, .string ⟨#[]⟩, .slice none 0 0] 35)).alloc (.cells #[.int .i64 1, .int .i64 0, .int .i64 1, .string ⟨#[]⟩, .slice none 0 0] 35)).cell? ⟨g11, 4, none⟩ = some (.slice none 0 0) := cell_of_heap q2 4
  clear q2
  have q5 : (((((W7.alloc (.cells #[.int .i64 1, .int .i64 0, .int .i64 1, .string ⟨#[]⟩, .slice none 0 0] 35)).alloc (.cells #[.int .i64 1, .int .i64 0, .int .i64 1, .string ⟨#[]⟩, .slice none 0 0] 35)).alloc (.cells #[.int .i64 1, .int .i64 0, .int .i64 1, .string ⟨#[]⟩, .slice none 0 0] 35)).alloc (.cells #[.int .i64 8, .string ⟨#[]⟩, .string ⟨#[]⟩, .int .i64 0, .slice none 0 0, .slice none 0 0, .slice none 0 0] 46)).alloc (.cells #[.int .i64 1, .int .i64 0, .int .i64 4294967296, .string ⟨#[]⟩, .slice none 0 0] 35)).heap[g11]? = some (.cells #[.int .i64 1, .int .i64 0, .int .i64 1, .string ⟨#[]⟩, .slice none 0 0] 35 (0, 0)) := ((((((Bel.refl W7).alloc _ _).alloc _ _).alloc _ _).alloc _ _).alloc _ _).stays HXO.out
  have k50 : (((((W7.alloc (.cells #[.int .i64 1, .int .i64 0, .int .i64 1, .string ⟨#[]⟩, .slice none 0 0] 35)).alloc (.cells #[.int .i64 1, .int .i64 0, .int .i64 1, .string ⟨#[]⟩, .slice none 0 0] 35)).alloc (.cells #[.int .i64 1, .int .i64 0, .int .i64 1, .string ⟨#[]⟩, .slice none 0 0] 35)).alloc (.cells #[.int .i64 8, .string ⟨#[]⟩, .string ⟨#[]⟩, .int .i64 0, .slice none 0 0, .slice none 0 0, .slice none 0 0] 46)).alloc (.cells #[.int .i64 1, .int .i64 0, .int .i64 4294967296, .string ⟨#[]⟩, .slice none 0 0] 35)).cell? ⟨g11, 0, none⟩ = some (.int .i64 1) := cell_of_heap q5 0
  have k51 : (((((W7.alloc (.cells #[.int .i64 1, .int .i64 0, .int .i64 1, .string ⟨#[]⟩, .slice none 0 0] 35)).alloc (.cells #[.int .i64 1, .int .i64 0, .int .i64 1, .string ⟨#[]⟩, .slice none 0 0] 35)).alloc (.cells #[.int .i64 1, .int .i64 0, .int .i64 1, .string ⟨#[]⟩, .slice none 0 0] 35)).alloc (.cells #[.int .i64 8, .string ⟨#[]⟩, .string ⟨#[]⟩, .int .i64 0, .slice none 0 0, .slice none 0 0, .slice none 0 0] 46)).alloc (.cells #[.int .i64 1, .int .i64 0, .int .i64 4294967296, .string ⟨#[]⟩, .slice none 0 0] 35)).cell? ⟨g11, 1, none⟩ = some (.int .i64 0) := cell_of_heap q5 1
  have k52 : (((((W7.alloc (.cells #[.int .i64 1, .int .i64 0, .int .i64 1, .string ⟨#[]⟩, .slice none 0 0] 35)).alloc (.cells #[.int .i64 1, .int .i64 0, .int .i64 1, .string ⟨#[]⟩, .slice none 0 0] 35)).alloc (.cells #[.int .i64 1, .int .i64 0, .int .i64 1, .string ⟨#[]⟩, .slice none 0 0] 35)).alloc (.cells #[.int .i64 8, .string ⟨#[]⟩, .string ⟨#[]⟩, .int .i64 0, .slice none 0 0, .slice none 0 0, .slice none 0 0] 46)).alloc (.cells #[.int .i64 1, .int .i64 0, .int .i64 4294967296, .string ⟨#[]⟩, .slice none 0 0] 35)).cell? ⟨g11, 2, none⟩ = some (.int .i64 1) := cell_of_heap q5 2
  have k53 : (((((W7.alloc (.cells #[.int .i64 1, .int .i64 0, .int .i64 1, .string ⟨#[]⟩, .slice none 0 0] 35)).alloc (.cells #[.int .i64 1, .int .i64 0, .int .i64 1, .string ⟨#[]⟩, .slice none 0 0] 35)).alloc (.cells #[.int .i64 1, .int .i64 0, .int .i64 1, .string ⟨#[]⟩, .slice none 0 0] 35)).alloc (.cells #[.int .i64 8, .string ⟨#[]⟩, .string ⟨#[]⟩, .int .i64 0, .slice none 0 0, .slice none 0 0, .slice none 0 0] 46)).alloc (.cells #[.int .i64 1, .int .i64 0, .int .i64 4294967296, .string ⟨#[]⟩, .slice none 0 0] 35)).cell? ⟨g11, 3, none⟩ = some (.string ⟨#[]⟩) := cell_of_heap q5 3
  have k54 : (((((W7.alloc (.cells #[.int .i64 1, .int .i64 0, .int .i64 1, .string ⟨#[]⟩, .slice none 0 0] 35)).alloc (.cells #[.int .i64 1, .int .i64 0, .int .i64 1, .string ⟨#[]⟩, .slice none 0 0] 35)).alloc (.cells #[.int .i64 1, .int .i64 0, .int .i64 1, .string ⟨#[]⟩, .slice none 0 0] 35)).alloc (.cells #[.int .i64 8, .string ⟨#[]⟩, .string ⟨#[]⟩, .int .i64 0, .slice none 0 0, .slice none 0 0, .slice none 0 0] 46)).alloc (.cells #[.int .i64 1, .int .i64 0, .int .i64 4294967296, .string ⟨#[]⟩, .slice none 0 0] 35)).cell? ⟨g11, 4, none⟩ = some (.slice none 0 0) := cell_of_heap q5 4
  clear q5
  go_upto_region 5 with (fail)
  clear k0 k1 k2 k3 k4 k10 k11 k12 k13 k14 k20 k21 k22 k23 k24 k50 k51 k52 k53 k54
  obtain ⟨nb, n0, n1, n2, n3, n4, n5, n6⟩ := seven_new W7 #[.int .i64 1, .int .i64 0, .int .i64 1, .string ⟨#[]⟩, .slice none 0 0] #[.int .i64 1, .int .i64 0, .int .i64 1, .string ⟨#[]⟩, .slice none 0 0] #[.int .i64 1, .int .i64 0, .int .i64 1, .string ⟨#[]⟩, .slice none 0 0] #[.int .i64 8, .string ⟨#[]⟩, .string ⟨#[]⟩, .int .i64 0, .slice none 0 0, .slice none 0 0, .slice none 0 0] #[.int .i64 1, .int .i64 0, .int .i64 4294967296, .string ⟨#[]⟩, .slice none 0 0] #[.int .i64 1, .int .i64 0, .int .i64 1, .string ⟨#[]⟩, .slice none 0 0] #[.int .i64 0, .string ⟨#[]⟩, .string ⟨#[]⟩, .int .i64 0, .slice none 0 0, .slice none 0 0, .slice none 0 0, .int .i64 9, .string ⟨#[]⟩, .string ⟨#[]⟩, .int .i64 0, .slice none 0 0, .slice none 0 0, .slice none 0 0, .int .i64 8, .string ⟨#[]⟩, .string ⟨#[]⟩, .int .i64 1, .slice none 0 0, .slice none 0 0, .slice none 0 0, .int .i64 1, .string ⟨#[120]⟩, .string ⟨#[]⟩, .int .i64 0, .slice none 0 0, .slice none 0 0, .slice none 0 0, .int .i64 1, .string ⟨#[105, 102]⟩, .string ⟨#[]⟩, .int .i64 0, .slice (some ⟨W7.heap.size, 0, none⟩) 1 1, .slice none 0 0, .slice none 0 0, .int .i64 2, .string ⟨#[120]⟩, .string ⟨#[100]⟩, .int .i64 4, .slice none 0 0, .slice none 0 0, .slice none 0 0, .int .i64 3, .string ⟨#[100]⟩, .string ⟨#[]⟩, .int .i64 (-1), .slice (some ⟨W7.heap.size + 1, 0, none⟩) 1 1, .slice none 0 0, .slice none 0 0, .int .i64 4, .string ⟨#[114, 97]⟩, .string ⟨#[]⟩, .int .i64 0, .slice (some ⟨W7.heap.size + 1 + 1, 0, none⟩) 1 1, .slice none 0 0, .slice none 0 0, .int .i64 5, .string ⟨#[114, 97]⟩, .string ⟨#[]⟩, .int .i64 0, .slice none 0 0, .slice none 0 0, .slice (some ⟨W7.heap.size + 1 + 1 + 1, 0, none⟩) 1 1, .int .i64 7, .string ⟨#[]⟩, .string ⟨#[]⟩, .int .i64 21, .slice none 0 0, .slice none 0 0, .slice none 0 0, .int .i64 6, .string ⟨#[]⟩, .string ⟨#[]⟩, .int .i64 0, .slice (some ⟨W7.heap.size + 1 + 1 + 1 + 1, 0, none⟩) 1 1, .slice none 0 0, .slice none 0 0, .int .i64 1, .string ⟨#[120]⟩, .string ⟨#[100]⟩, .int .i64 0, .slice (some ⟨W7.heap.size + 1 + 1 + 1 + 1 + 1, 0, none⟩) 1 1, .slice none 0 0, .slice none 0 0] 35 35 35 46 35 35 46
  have hG0 : M ≤ W7.heap.size := by have := HMM.out; omega
  have hG1 : M ≤ W7.heap.size + 1 := by have := HMM.out; omega
  have hG2 : M ≤ W7.heap.size + 1 + 1 := by have := HMM.out; omega
  have hG3 : M ≤ W7.heap.size + 1 + 1 + 1 := by have := HMM.out; omega
  have hG4 : M ≤ W7.heap.size + 1 + 1 + 1 + 1 := by have := HMM.out; omega
  have hG5 : M ≤ W7.heap.size + 1 + 1 + 1 + 1 + 1 := by have := HMM.out; omega
  generalize (((((((W7.alloc (.cells #[.int .i64 1, .int .i64 0, .int .i64 1, .string ⟨#[]⟩, .slice none 0 0] 35)).alloc (.cells #[.int .i64 1, .int .i64 0, .int .i64 1, .string ⟨#[]⟩, .slice none 0 0] 35)).alloc (.cells #[.int .i64 1, .int .i64 0, .int .i64 1, .string ⟨#[]⟩, .slice none 0 0] 35)).alloc (.cells #[.int .i64 8, .string ⟨#[]⟩, .string ⟨#[]⟩, .int .i64 0, .slice none 0 0, .slice none 0 0, .slice none 0 0] 46)).alloc (.cells #[.int .i64 1, .int .i64 0, .int .i64 4294967296, .string ⟨#[]⟩, .slice none 0 0] 35)).alloc (.cells #[.int .i64 1, .int .i64 0, .int .i64 1, .string ⟨#[]⟩, .slice none 0 0] 35)).alloc (.cells #[.int .i64 0, .string ⟨#[]⟩, .string ⟨#[]⟩, .int .i64 0, .slice none 0 0, .slice none 0 0, .slice none 0 0, .int .i64 9, .string ⟨#[]⟩, .string ⟨#[]⟩, .int .i64 0, .slice none 0 0, .slice none 0 0, .slice none 0 0, .int .i64 8, .string ⟨#[]⟩, .string ⟨#[]⟩, .int .i64 1, .slice none 0 0, .slice none 0 0, .slice none 0 0, .int .i64 1, .string ⟨#[120]⟩, .string ⟨#[]⟩, .int .i64 0, .slice none 0 0, .slice none 0 0, .slice none 0 0, .int .i64 1, .string ⟨#[105, 102]⟩, .string ⟨#[]⟩, .int .i64 0, .slice (some ⟨W7.heap.size, 0, none⟩) 1 1, .slice none 0 0, .slice none 0 0, .int .i64 2, .string ⟨#[120]⟩, .string ⟨#[100]⟩, .int .i64 4, .slice none 0 0, .slice none 0 0, .slice none 0 0, .int .i64 3, .string ⟨#[100]⟩, .string ⟨#[]⟩, .int .i64 (-1), .slice (some ⟨W7.heap.size + 1, 0, none⟩) 1 1, .slice none 0 0, .slice none 0 0, .int .i64 4, .string ⟨#[114, 97]⟩, .string ⟨#[]⟩, .int .i64 0, .slice (some ⟨W7.heap.size + 1 + 1, 0, none⟩) 1 1, .slice none 0 0, .slice none 0 0, .int .i64 5, .string ⟨#[114, 97]⟩, .string ⟨#[]⟩, .int .i64 0, .slice none 0 0, .slice none 0 0, .slice (some ⟨W7.heap.size + 1 + 1 + 1, 0, none⟩) 1 1, .int .i64 7, .string ⟨#[]⟩, .string ⟨#[]⟩, .int .i64 21, .slice none 0 0, .slice none 0 0, .slice none 0 0, .int .i64 6, .string ⟨#[]⟩, .string ⟨#[]⟩, .int .i64 0, .slice (some ⟨W7.heap.size + 1 + 1 + 1 + 1, 0, none⟩) 1 1, .slice none 0 0, .slice none 0 0, .int .i64 1, .string ⟨#[120]⟩, .string ⟨#[100]⟩, .int .i64 0, .slice (some ⟨W7.heap.size + 1 + 1 + 1 + 1 + 1, 0, none⟩) 1 1, .slice none 0 0, .slice none 0 0] 46)) = W8 at nb n0 n1 n2 n3 n4 n5 n6 ⊢
  generalize W7.heap.size + 1 + 1 + 1 + 1 + 1 + 1 = G6 at n6 ⊢
  generalize W7.heap.size + 1 + 1 + 1 + 1 + 1 = G5 at n5 n6 hG5 ⊢
  generalize W7.heap.size + 1 + 1 + 1 + 1 = G4 at n4 n6 hG4 ⊢
  generalize W7.heap.size + 1 + 1 + 1 = G3 at n3 n6 hG3 ⊢
  generalize W7.heap.size + 1 + 1 = G2 at n2 n6 hG2 ⊢
  generalize W7.heap.size + 1 = G1 at n1 n6 hG1 ⊢
  generalize W7.heap.size = G0 at n0 n6 hG0 ⊢
  have HB6 := Lib.hid (Bel.trans (Bel.refl W7) nb)
  have HXP := Lib.hid (nb.stays HXP.out)
  have HB := Lib.hid (HB.out.trans nb)
  have hbl := bad_ok hG0 hG1 hG2 hG3 hG4 hG5 n0 n1 n2 n3 n4 n5
  have hbe := bad_enc n6
  obtain ⟨i, hi, hpi⟩ := nx_nat x2 (n := 12) (by omega)
  obtain ⟨x, hx⟩ : ∃ x, (badP G0 G1 G2 G3 G4 G5)[i]? = some x := ⟨_, List.getElem?_eq_getElem (by show i < 12; omega)⟩
  have hxx : x.x = bads.getD i haltS := bad_x hx
  have hxk := hbl x (List.mem_of_getElem? hx)
  obtain ⟨bb, ob, hpb, _, hcb⟩ := hbe i x hx
  cases hpb
  have r0 : W8.cell? ⟨G6, i * 7, none⟩ = some (.int .i64 x.x.kind) := by simpa using hcb 0 _ rfl
  have r1 : W8.cell? ⟨G6, i * 7 + 1, none⟩ = some (.string x.x.name) := by simpa using hcb 1 _ rfl
  have r2 : W8.cell? ⟨G6, i * 7 + 2, none⟩ = some (.string x.x.src) := by simpa using hcb 2 _ rfl
  have r3 : W8.cell? ⟨G6, i * 7 + 3, none⟩ = some (.int .i64 x.x.n) := by simpa using hcb 3 _ rfl
  have r4 : W8.cell? ⟨G6, i * 7 + 4, none⟩ = some (.slice x.q x.x.args.length x.c) := by simpa using hcb 4 _ rfl
  have r5 : W8.cell? ⟨G6, i * 7 + 5, none⟩ = some (.slice x.q1 x.x.thn.length x.c1) := by simpa using hcb 5 _ rfl
  have r6 : W8.cell? ⟨G6, i * 7 + 6, none⟩ = some (.slice x.q2 x.x.els.length x.c2) := by simpa using hcb 6 _ rfl
  have hi12 : (i : Int) < 12 := by omega
  have HBX := Lib.hid hxk
  have HXX := Lib.hid hxx
  have HPI := Lib.hid hpi
  have HII := Lib.hid hi
  clear hbl hbe hx hxx hxk hcb n0 n1 n2 n3 n4 n5 n6 nb hG0 hG1 hG2 hG3 hG4 hG5 hpi
  go_wp2_with fail
  refine (pick6_lit HPI.out HI2.out (by decide) _).mono ?_
  rintro e w' ⟨rfl, rfl⟩
  go_upto_region 6 with (fail)
  clear r0 r1 r2 r3 r4 r5 r6
  obtain ⟨nb, nx⟩ := wbox_new W8 (#[.int .i64 x.x.kind, .string x.x.name, .string x.x.src, .int .i64 x.x.n, .slice x.q x.x.args.length x.c, .slice x.q1 x.x.thn.length x.c1, .slice x.q2 x.x.els.length x.c2]) 46
  generalize hW9 : W8.alloc (.cells #[.int .i64 x.x.kind, .string x.x.name, .string x.x.src, .int .i64 x.x.n, .slice x.q x.x.args.length x.c, .slice x.q1 x.x.thn.length x.c1, .slice x.q2 x.x.els.length x.c2] 46) = W9 at nb nx ⊢
  generalize hg13 : W8.heap.size = g13 at nx ⊢
  have HXS := Lib.hid nx
  have HOK9 := Lib.hid (HBX.out.sub (sub_ymask nb (Nat.le_of_eq hg13)))
  have hM13 : M ≤ g13 := by rw [← hg13, ← HMM.out]; exact HB6.out.size
  have HB6 := Lib.hid (HB6.out.trans nb)
  have HXP := Lib.hid (nb.stays HXP.out)
  have HB := Lib.hid (HB.out.trans nb)
  have HM13 := Lib.hid hM13
  have H1013 : Hid (g10 < g13) := Lib.hid (by have := HG10.out; omega)
  clear nb nx hW9 hg13 hM13
  obtain ⟨d, hd, hpd⟩ := nx_nat x3 (n := 20) (by omega)
  have HPD := Lib.hid hpd
  clear hpd
  go_wp2_with fail
  refine (pick6_lit HPD.out HI3.out (by decide) _).mono ?_
  rintro e w' ⟨rfl, rfl⟩
  go_wp2_with fail
  go_loopg [14] d (fun gk ii wr => ∃ x' : PS, ∃ r : Nat, ii = .int .i64 (gk : Int) ∧ r + gk = d ∧ Hid (x'.x = inRep r x.x) ∧ Hid (wr.heap[g13]? = some (.cells #[.int .i64 x'.x.kind, .string x'.x.name, .string x'.x.src, .int .i64 x'.x.n, .slice x'.q x'.x.args.length x'.c, .slice x'.q1 x'.x.thn.length x'.c1, .slice x'.q2 x'.x.els.length x'.c2] 46 (0, 0))) ∧ Hid (PSok (ymask M g13 wr) x') ∧ Hid (Svg g13 W9 wr))
  case atStart => exact ⟨x, 0, rfl, by omega, Lib.hid rfl, HXS, HOK9, Lib.hid (Svg.refl _ _)⟩
  case round =>
    obtain ⟨y, r, rfl, hrg, HRX, HYB, HYK, HVR⟩ := hrel
    cases gk with
    | succ m =>
      have hm0 : (0 < (m : Int) + 1) = True := eq_true (by omega)
      have hm1 : IntKind.i64.wrap (m : Int) = (m : Int) := IntWalk.i64_in _ (by constructor <;> omega)
      have k0 : wr.cell? ⟨g13, 0, none⟩ = some (.int .i64 y.x.kind) := cell_of_heap HYB.out 0
      have k1 : wr.cell? ⟨g13, 1, none⟩ = some (.string y.x.name) := cell_of_heap HYB.out 1
      have k2 : wr.cell? ⟨g13, 2, none⟩ = some (.string y.x.src) := cell_of_heap HYB.out 2
      have k3 : wr.cell? ⟨g13, 3, none⟩ = some (.int .i64 y.x.n) := cell_of_heap HYB.out 3
      have k4 : wr.cell? ⟨g13, 4, none⟩ = some (.slice y.q y.x.args.length y.c) := cell_of_heap HYB.out 4
      have k5 : wr.cell? ⟨g13, 5, none⟩ = some (.slice y.q1 y.x.thn.length y.c1) := cell_of_heap HYB.out 5
      have k6 : wr.cell? ⟨g13, 6, none⟩ = some (.slice y.q2 y.x.els.length y.c2) := cell_of_heap HYB.out 6
      obtain ⟨nb, nx⟩ := wbox_new wr (#[.int .i64 y.x.kind, .string y.x.name, .string y.x.src, .int .i64 y.x.n, .slice y.q y.x.args.length y.c, .slice y.q1 y.x.thn.length y.c1, .slice y.q2 y.x.els.length y.c2]) 46
      have hyb := nb.stays HYB.out
      have z0 : (wr.alloc (.cells #[.int .i64 y.x.kind, .string y.x.name, .string y.x.src, .int .i64 y.x.n, .slice y.q y.x.args.length y.c, .slice y.q1 y.x.thn.length y.c1, .slice y.q2 y.x.els.length y.c2] 46)).cell? ⟨g13, 0, none⟩ = some (.int .i64 y.x.kind) := cell_of_heap hyb 0
      have z1 : (wr.alloc (.cells #[.int .i64 y.x.kind, .string y.x.name, .string y.x.src, .int .i64 y.x.n, .slice y.q y.x.args.length y.c, .slice y.q1 y.x.thn.length y.c1, .slice y.q2 y.x.els.length y.c2] 46)).cell? ⟨g13, 1, none⟩ = some (.string y.x.name) := cell_of_heap hyb 1
      have z2 : (wr.alloc (.cells #[.int .i64 y.x.kind, .string y.x.name, .string y.x.src, .int .i64 y.x.n, .slice y.q y.x.args.length y.c, .slice y.q1 y.x.thn.length y.c1, .slice y.q2 y.x.els.length y.c2] 46)).cell? ⟨g13, 2, none⟩ = some (.string y.x.src) := cell_of_heap hyb 2
      have z3 : (wr.alloc (.cells #[.int .i64 y.x.kind, .string y.x.name, .string y.x.src, .int .i64 y.x.n, .slice y.q y.x.args.length y.c, .slice y.q1 y.x.thn.length y.c1, .slice y.q2 y.x.els.length y.c2] 46)).cell? ⟨g13, 3, none⟩ = some (.int .i64 y.x.n) := cell_of_heap hyb 3
      have z4 : (wr.alloc (.cells #[.int .i64 y.x.kind, .string y.x.name, .string y.x.src, .int .i64 y.x.n, .slice y.q y.x.args.length y.c, .slice y.q1 y.x.thn.length y.c1, .slice y.q2 y.x.els.length y.c2] 46)).cell? ⟨g13, 4, none⟩ = some (.slice y.q y.x.args.length y.c) := cell_of_heap hyb 4
      have z5 : (wr.alloc (.cells #[.int .i64 y.x.kind, .string y.x.name, .string y.x.src, .int .i64 y.x.n, .slice y.q y.x.args.length y.c, .slice y.q1 y.x.thn.length y.c1, .slice y.q2 y.x.els.length y.c2] 46)).cell? ⟨g13, 5, none⟩ = some (.slice y.q1 y.x.thn.length y.c1) := cell_of_heap hyb 5
      have z6 : (wr.alloc (.cells #[.int .i64 y.x.kind, .string y.x.name, .string y.x.src, .int .i64 y.x.n, .slice y.q y.x.args.length y.c, .slice y.q1 y.x.thn.length y.c1, .slice y.q2 y.x.els.length y.c2] 46)).cell? ⟨g13, 6, none⟩ = some (.slice y.q2 y.x.els.length y.c2) := cell_of_heap hyb 6
      have f0 : (wr.alloc (.cells #[.int .i64 y.x.kind, .string y.x.name, .string y.x.src, .int .i64 y.x.n, .slice y.q y.x.args.length y.c, .slice y.q1 y.x.thn.length y.c1, .slice y.q2 y.x.els.length y.c2] 46)).frozen? ⟨g13, 0, none⟩ = false := frozen_of_heap hyb 0
      have f1 : (wr.alloc (.cells #[.int .i64 y.x.kind, .string y.x.name, .string y.x.src, .int .i64 y.x.n, .slice y.q y.x.args.length y.c, .slice y.q1 y.x.thn.length y.c1, .slice y.q2 y.x.els.length y.c2] 46)).frozen? ⟨g13, 1, none⟩ = false := frozen_of_heap hyb 1
      have f2 : (wr.alloc (.cells #[.int .i64 y.x.kind, .string y.x.name, .string y.x.src, .int .i64 y.x.n, .slice y.q y.x.args.length y.c, .slice y.q1 y.x.thn.length y.c1, .slice y.q2 y.x.els.length y.c2] 46)).frozen? ⟨g13, 2, none⟩ = false := frozen_of_heap hyb 2
      have f3 : (wr.alloc (.cells #[.int .i64 y.x.kind, .string y.x.name, .string y.x.src, .int .i64 y.x.n, .slice y.q y.x.args.length y.c, .slice y.q1 y.x.thn.length y.c1, .slice y.q2 y.x.els.length y.c2] 46)).frozen? ⟨g13, 3, none⟩ = false := frozen_of_heap hyb 3
      have f4 : (wr.alloc (.cells #[.int .i64 y.x.kind, .string y.x.name, .string y.x.src, .int .i64 y.x.n, .slice y.q y.x.args.length y.c, .slice y.q1 y.x.thn.length y.c1, .slice y.q2 y.x.els.length y.c2] 46)).frozen? ⟨g13, 4, none⟩ = false := frozen_of_heap hyb 4
      have f5 : (wr.alloc (.cells #[.int .i64 y.x.kind, .string y.x.name, .string y.x.src, .int .i64 y.x.n, .slice y.q y.x.args.length y.c, .slice y.q1 y.x.thn.length y.c1, .slice y.q2 y.x.els.length y.c2] 46)).frozen? ⟨g13, 5, none⟩ = false := frozen_of_heap hyb 5
      have f6 : (wr.alloc (.cells #[.int .i64 y.x.kind, .string y.x.name, .string y.x.src, .int .i64 y.x.n, .slice y.q y.x.args.length y.c, .slice y.q1 y.x.thn.length y.c1, .slice y.q2 y.x.els.length y.c2] 46)).frozen? ⟨g13, 6, none⟩ = false := frozen_of_heap hyb 6
      have hset := set7 (b0 := .int .i64 7) (b1 := .string ⟨#[]⟩) (b2 := .string ⟨#[]⟩) (b3 := .int .i64 2) (b4 := .slice none 0 0) (b5 := .slice (some ⟨wr.heap.size, 0, none⟩) 1 1) (b6 := .slice none 0 0) hyb
      have hsv := sv7 g13 (wr.alloc (.cells #[.int .i64 y.x.kind, .string y.x.name, .string y.x.src, .int .i64 y.x.n, .slice y.q y.x.args.length y.c, .slice y.q1 y.x.thn.length y.c1, .slice y.q2 y.x.els.length y.c2] 46)) (.int .i64 7) (.string ⟨#[]⟩) (.string ⟨#[]⟩) (.int .i64 2) (.slice none 0 0) (.slice (some ⟨wr.heap.size, 0, none⟩) 1 1) (.slice none 0 0)
      go_upto_region 8 with (fail)
      clear k0 k1 k2 k3 k4 k5 k6 z0 z1 z2 z3 z4 z5 z6 f0 f1 f2 f3 f4 f5 f6 hyb
      generalize ((((((((wr.alloc (.cells #[.int .i64 y.x.kind, .string y.x.name, .string y.x.src, .int .i64 y.x.n, .slice y.q y.x.args.length y.c, .slice y.q1 y.x.thn.length y.c1, .slice y.q2 y.x.els.length y.c2] 46)).setCell ⟨g13, 0, none⟩ (.int .i64 7)).setCell ⟨g13, 1, none⟩ (.string ⟨#[]⟩)).setCell ⟨g13, 2, none⟩ (.string ⟨#[]⟩)).setCell ⟨g13, 3, none⟩ (.int .i64 2)).setCell ⟨g13, 4, none⟩ (.slice none 0 0)).setCell ⟨g13, 5, none⟩ (.slice (some ⟨wr.heap.size, 0, none⟩) 1 1)).setCell ⟨g13, 6, none⟩ (.slice none 0 0)) = WB at hset hsv ⊢
      generalize (wr.alloc (.cells #[.int .i64 y.x.kind, .string y.x.name, .string y.x.src, .int .i64 y.x.n, .slice y.q y.x.args.length y.c, .slice y.q1 y.x.thn.length y.c1, .slice y.q2 y.x.els.length y.c2] 46)) = WC at nb nx hsv
      have hlt := lt_of_heap HYB.out
      have hMN : M ≤ wr.heap.size := by have := HM13.out; omega
      generalize wr.heap.size = N at nx hset hMN hlt ⊢
      have hvv := (nb.svg g13).trans hsv
      have hsub : Sub (ymask M g13 wr) (ymask M g13 WB) := ymask_sv hvv
      have hrow : SAt (ymask M g13 WB) (some ⟨N, 0, none⟩) [inRep r x.x] := by
        rw [← HRX.out]
        exact SAt.one (s := y.x) (ymask_heap (hsv.stays nx (by omega)) hMN (by omega)) HYK.out.wf (HYK.out.args.sub hsub) (HYK.out.thn.sub hsub) (HYK.out.els.sub hsub)
      have HYK2 : Hid (PSok (ymask M g13 WB) ⟨inRep (r + 1) x.x, none, 0, some ⟨N, 0, none⟩, 1, none, 0⟩) := Lib.hid ⟨wfS_of ⟨by decide, by decide⟩ ⟨by decide, by decide⟩ (Nat.zero_le _) (Nat.zero_le _) (Nat.zero_le _) (by show (1 : Nat) ≤ _; decide) (Nat.zero_le _), EAt.nil _ _, hrow, SAt.nil _ _⟩
      have HYB2 := Lib.hid hset
      have HVR2 := Lib.hid (HVR.out.trans hvv)
      clear nb nx hset hsv hMN hlt hvv hsub hrow
      go_wp2_with fail
      go_roundg m
      case measure => omega
      case rel => exact ⟨⟨inRep (r + 1) x.x, none, 0, some ⟨N, 0, none⟩, 1, none, 0⟩, r + 1, by go_num, by omega, Lib.hid rfl, HYB2, HYK2, HVR2⟩
    | zero =>
      have hBM := HB.out.size
      have HB6 := Lib.hid (HVR.out.bel HB6.out (by rw [HMM.out]; exact HM13.out))
      have HXP := Lib.hid (HVR.out.stays HXP.out (by have := H1013.out; omega))
      have HB7 := Lib.hid (HVR.out.bel HB.out (by have := HB7M.out; have := HM13.out; omega))
      obtain ⟨B, l, hBB, hPt, hrow, hok, hdv, hrs⟩ := HM.out.ex
      have hpos : 0 < P.tasks.length := by rw [← HP.out]; exact wtasks_pos _ _
      obtain ⟨k, hk, hpk⟩ := nx_nat x1 hpos
      have hll : P.tasks.length = l.length := by rw [hPt, List.length_map]
      obtain ⟨z, hz⟩ : ∃ z, l[k]? = some z := ⟨_, List.getElem?_eq_getElem (by omega)⟩
      obtain ⟨gT, hq3, hBg, hgT, _⟩ := row_set (y' := z) hrow hz
      subst hq3
      have hrw := hrow.bel HB6.out
      obtain ⟨qx, cx, hvx, he, _⟩ := hrw.form tskTy.len
      have hqx : some (⟨gT, 0, none⟩ : Addr) = qx := by injection hvx
      subst hqx
      obtain ⟨bx, ox, hpx, _, hcx⟩ := he k z hz
      cases hpx
      have r0 : wr.cell? ⟨gT, k * 6, none⟩ = some (.string z.t.name) := by simpa using hcx 0 _ rfl
      have r1 : wr.cell? ⟨gT, k * 6 + 1, none⟩ = some (.bool z.t.handler) := by simpa using hcx 1 _ rfl
      have r2 : wr.cell? ⟨gT, k * 6 + 2, none⟩ = some (.int .i64 z.t.hart) := by simpa using hcx 2 _ rfl
      have r3 : wr.cell? ⟨gT, k * 6 + 3, none⟩ = some (.int .i64 z.t.prio) := by simpa using hcx 3 _ rfl
      have r4 : wr.cell? ⟨gT, k * 6 + 4, none⟩ = some (.int .i64 z.t.line) := by simpa using hcx 4 _ rfl
      have r5 : wr.cell? ⟨gT, k * 6 + 5, none⟩ = some (.slice z.q z.t.body.length z.c) := by simpa using hcx 5 _ rfl
      obtain ⟨nt, hnt⟩ : ∃ nt, P.tasks.length = nt := ⟨_, rfl⟩
      have k3 : wr.cell? ⟨g10, 3, none⟩ = some (.slice (some ⟨gT, 0, none⟩) P.tasks.length b3) := cell_of_heap HXP.out 3
      rw [hnt] at k3 hk hpk hpos
      have hk1 : (k : Int) < (nt : Int) := by omega
      have HPK := Lib.hid hpk
      have hpos1 : (1 : Int) ≤ (nt : Int) := by omega
      have HPS := Lib.hid hpos1
      have HLL := Lib.hid hll
      have HPT := Lib.hid hPt
      have HZ := Lib.hid hz
      have HROW := Lib.hid hrow
      have HOK := Lib.hid hok
      have HDV := Lib.hid hdv
      have HRS := Lib.hid hrs
      have HBG := Lib.hid (And.intro hBB (And.intro hBg hgT))
      have HNT := Lib.hid hnt
      clear hll hPt hz hrow hok hdv hrs hBB hBg hgT hvx he hcx hrw hpk hnt hpos hpos1 hBM
      obtain ⟨W, hW⟩ : ∃ W, W = wr := ⟨_, rfl⟩
      subst hW
      go_wp2_with fail
      refine (pick6_lit HPK.out HI1.out HPS.out _).mono ?_
      rintro e w' ⟨rfl, rfl⟩
      go_upto_region 12 with (fail)
      clear r0 r1 r2 r3 r4 r5 k3
      have HOLD := Lib.hid (And.intro (lt_of_heap HXP.out) (lt_of_heap HYB.out))
      obtain ⟨nb, nx⟩ := wbox_new W (#[.string z.t.name, .bool z.t.handler, .int .i64 z.t.hart, .int .i64 z.t.prio, .int .i64 z.t.line, .slice z.q z.t.body.length z.c]) 48
      generalize W.alloc (.cells #[.string z.t.name, .bool z.t.handler, .int .i64 z.t.hart, .int .i64 z.t.prio, .int .i64 z.t.line, .slice z.q z.t.body.length z.c] 48) = W10 at nb nx ⊢
      generalize hg16 : W.heap.size = g16 at nx ⊢
      have HX16 := Lib.hid nx
      have hd := HOLD.out
      have H1016 : Hid (g10 ≠ g16) := Lib.hid (by omega)
      have HWM := HB6.out.size
      have H16W : Hid (W.heap.size = g16) := Lib.hid hg16
      have HKN : Hid (k < nt) := Lib.hid hk
      have HB1M : Hid (w.heap.size ≤ B) := Lib.hid (Nat.le_trans HB1.out.size HBG.out.1)
      have H16M : Hid (M ≤ g16) := Lib.hid (by have := HMM.out; omega)
      have HXP := Lib.hid (nb.stays HXP.out)
      have HXY := Lib.hid (nb.stays HYB.out)
      have HBW := Lib.hid nb
      have HB6 := Lib.hid (HB6.out.trans nb)
      have HB7 := Lib.hid (HB7.out.trans nb)
      clear nb nx hd HWM hg16
      have hzk := HOK.out z (List.mem_of_getElem? HZ.out)
      obtain ⟨L, hL1, hL2, hL3⟩ := sat_ps hzk.body
      have hlen : L.length = z.t.body.length := by rw [← hL1, List.length_map]
      have HL1 := Lib.hid hL1
      have HL2 := Lib.hid (hL2.sub ((maskP_sub _ W7).trans HB6.out.sub))
      have HL3 := Lib.hid hL3
      have HLN := Lib.hid hlen
      have HLE : Hid (z.t.body.length ≤ 100000) := Lib.hid (Nat.le_trans hzk.len (by decide))
      obtain ⟨nl, hnl⟩ : ∃ nl, nl = (L ++ [y]).length := ⟨_, rfl⟩
      have HNL := Lib.hid hnl
      clear hzk hL1 hL2 hL3 hlen hnl
      go_cut [] from 74 to 80 (fun wx => ∃ (p4 : Option Addr) (c4 base : Nat), W10.heap.size ≤ base ∧ Hid (wx.heap[g16]? = some (.cells #[.string z.t.name, .bool z.t.handler, .int .i64 z.t.hart, .int .i64 z.t.prio, .int .i64 z.t.line, .slice p4 nl c4] 48 (0, 0))) ∧ Hid (ERow encS 46 7 wx base (.slice p4 nl c4) (L ++ [y])) ∧ Hid (Svg g16 W10 wx))
      case first =>
        have HF : Hid (∀ w', Bel W10 w' → w'.cell? ⟨g16, 5, none⟩ = some (.slice z.q z.t.body.length z.c) ∧ w'.cell? ⟨g13, 0, none⟩ = some (.int .i64 y.x.kind) ∧ w'.cell? ⟨g13, 1, none⟩ = some (.string y.x.name) ∧ w'.cell? ⟨g13, 2, none⟩ = some (.string y.x.src) ∧ w'.cell? ⟨g13, 3, none⟩ = some (.int .i64 y.x.n) ∧ w'.cell? ⟨g13, 4, none⟩ = some (.slice y.q y.x.args.length y.c) ∧ w'.cell? ⟨g13, 5, none⟩ = some (.slice y.q1 y.x.thn.length y.c1) ∧ w'.cell? ⟨g13, 6, none⟩ = some (.slice y.q2 y.x.els.length y.c2)) := Lib.hid (fun w' hb => ⟨cell_of_heap (hb.stays HX16.out) 5, cell_of_heap (hb.stays HXY.out) 0, cell_of_heap (hb.stays HXY.out) 1, cell_of_heap (hb.stays HXY.out) 2, cell_of_heap (hb.stays HXY.out) 3, cell_of_heap (hb.stays HXY.out) 4, cell_of_heap (hb.stays HXY.out) 5, cell_of_heap (hb.stays HXY.out) 6⟩)
        refine Upto.begin (T := fun w' => Bel W10 w') (z := 7) (by kernel_rfl) ?_
        refine takeU 74 (i := 0) (v := ?v1) rfl rfl rfl (by kernel_rfl) (by kernel_rfl) (by kernel_rfl) (by kernel_rfl) (fun _ _ _ h => h) (by kernel_rfl) ?hy1 (Bel.refl W10).drew ?rest1
        case hy1 => (intro w0 hSw; obtain ⟨s5, y0, y1, y2, y3, y4, y5, y6⟩ := HF.out _ hSw; first | (go_simp; done) | (go_simp; with_reducible rfl))
        simp only [List.setIfInBounds_toArray, List.set_cons_zero, List.set_cons_succ]
        refine takeU 75 (i := 1) (v := ?v2) rfl rfl rfl (by kernel_rfl) (by kernel_rfl) (by kernel_rfl) (by kernel_rfl) (fun _ _ _ h => h) (by kernel_rfl) ?hy2 (Bel.refl W10).drew ?rest2
        case hy2 => (intro w0 hSw; obtain ⟨s5, y0, y1, y2, y3, y4, y5, y6⟩ := HF.out _ hSw; first | (go_simp; done) | (go_simp; with_reducible rfl))
        simp only [List.setIfInBounds_toArray, List.set_cons_zero, List.set_cons_succ]
        refine takeU 77 (i := 3) (v := ?v3) rfl rfl rfl (by kernel_rfl) (by kernel_rfl) (by kernel_rfl) (by kernel_rfl) (fun _ _ _ h => h) (by kernel_rfl) ?hy3 (Bel.refl W10).drew ?rest3
        case hy3 => (intro w0 hSw; obtain ⟨s5, y0, y1, y2, y3, y4, y5, y6⟩ := HF.out _ hSw; first | (go_simp; done) | (go_simp; with_reducible rfl))
        simp only [List.setIfInBounds_toArray, List.set_cons_zero, List.set_cons_succ]
        refine twoU 76 78 (i1 := 2) (i2 := 4) rfl rfl rfl rfl (by kernel_rfl) (by kernel_rfl) (by kernel_rfl) (fun K hK => ?_) (fun K hK => ?_)
        · obtain ⟨v1, wb, hr1, ho1, hb1⟩ := clone_new stmtTy (w := W10.drew) (src := z.q) (m := z.t.body.length) (c := z.c) (r := L) HLN.out (HL2.out.sub (Bel.refl W10).drew.sub) HLE.out
          refine appU (.const (.slice none 0 0)) (.tmp 75) 44 rfl _ _ _ (by kernel_rfl) (by kernel_rfl) hr1 ?_
          refine hK.out _ _ ((Bel.refl W10).drew.trans hb1) (fun _ => ?_)
          clear hK K
          simp only [List.setIfInBounds_toArray, List.set_cons_zero, List.set_cons_succ]
          refine oneU 78 (i := 4) rfl rfl (by kernel_rfl) (by kernel_rfl) (fun K hK => ?_)
          go_simp
          refine hK.out _ _ (((Bel.refl W10).drew.trans hb1).alloc _ _) (fun _ => ?_)
          clear hK K
          simp only [List.setIfInBounds_toArray, List.set_cons_zero, List.set_cons_succ]
          have hbc := (Bel.refl wb).alloc (#[.int .i64 y.x.kind, .string y.x.name, .string y.x.src, .int .i64 y.x.n, .slice y.q y.x.args.length y.c, .slice y.q1 y.x.thn.length y.c1, .slice y.q2 y.x.els.length y.c2]) 46
          have hnew := heap_alloc_new wb (.cells (#[.int .i64 y.x.kind, .string y.x.name, .string y.x.src, .int .i64 y.x.n, .slice y.q y.x.args.length y.c, .slice y.q1 y.x.thn.length y.c1, .slice y.q2 y.x.els.length y.c2]) 46)
          have hro := ho1.bel hbc
          refine oneU 79 (i := 5) rfl rfl (by kernel_rfl) (by kernel_rfl) (fun K hK => ?_)
          obtain ⟨vx, wd, hr2, ho2, hs2, hn2⟩ := one_more2 stmtTy hro y (c := 1) hnew rfl (by have := HLN.out; have := HLE.out; omega) (Nat.le_trans hb1.size hbc.size)
          obtain ⟨p4, c4, hvx⟩ := row_form stmtTy.len ho2 HNL.out
          subst hvx
          have hwd : Bel W10 wd := hs2.bel (((Bel.refl W10).drew.trans hb1).trans hbc) (fun b hb => by have h1 := own_ge hro b hb; have h2 : W10.heap.size ≤ W10.drew.heap.size := Nat.le_refl _; omega)
          have hx9 := hwd.stays HX16.out
          have z5 : wd.cell? ⟨g16, 5, none⟩ = some (.slice z.q z.t.body.length z.c) := cell_of_heap hx9 5
          have f5 := frozen_of_heap hx9 5
          refine appU (.tmp 76) (.tmp 78) 44 rfl _ _ _ (by kernel_rfl) (by kernel_rfl) hr2 ?_
          refine hK.out _ _ hwd (fun hMA => ?_)
          clear hK K
          simp only [List.setIfInBounds_toArray, List.set_cons_zero, List.set_cons_succ]
          refine takeU 80 (i := 6) (v := ?v4) rfl rfl rfl (by kernel_rfl) (by kernel_rfl) (by kernel_rfl) (by kernel_rfl) (fun _ _ _ h => h) (by kernel_rfl) ?hy4 hwd ?rest4
          case hy4 => (intro w0 hSw; obtain ⟨s5, y0, y1, y2, y3, y4, y5, y6⟩ := HF.out _ hSw; first | (go_simp; done) | (go_simp; with_reducible rfl))
          simp only [List.setIfInBounds_toArray, List.set_cons_zero, List.set_cons_succ]
          refine lastU rfl rfl (by kernel_rfl) (by kernel_rfl) (fun K hK => ?_)
          go_simp
          refine hK.out undef _ ?_
          clear hK K
          refine Upto.done (by kernel_rfl) ?_ _
          go_wp2_with fail
          go_meet
          have hse := Svg.set g16 5 wd (.slice p4 nl c4)
          have hxn : (wd.setCell ⟨g16, 5, none⟩ (.slice p4 nl c4)).heap[g16]? = some (.cells #[.string z.t.name, .bool z.t.handler, .int .i64 z.t.hart, .int .i64 z.t.prio, .int .i64 z.t.line, .slice p4 nl c4] 48 (0, 0)) := by simp [World.setCell, Array.getElem?_modify, hx9]
          have hbase : W10.heap.size ≤ W10.drew.heap.size := Nat.le_refl _
          have h16 := lt_of_heap HX16.out
          exact ⟨p4, c4, _, hbase, Lib.hid hxn, Lib.hid (ho2.sv hse (fun b hb e => by have h1 := own_ge ho2 b hb; omega)), Lib.hid (Svg.of hwd hse)⟩
        · go_simp
          refine hK.out _ _ ((Bel.refl W10).drew.alloc _ _) (fun _ => ?_)
          clear hK K
          simp only [List.setIfInBounds_toArray, List.set_cons_zero, List.set_cons_succ]
          refine oneU 76 (i := 2) rfl rfl (by kernel_rfl) (by kernel_rfl) (fun K hK => ?_)
          have hbc := ((Bel.refl W10).drew).alloc (#[.int .i64 y.x.kind, .string y.x.name, .string y.x.src, .int .i64 y.x.n, .slice y.q y.x.args.length y.c, .slice y.q1 y.x.thn.length y.c1, .slice y.q2 y.x.els.length y.c2]) 46
          have hnew := heap_alloc_new W10.drew (.cells (#[.int .i64 y.x.kind, .string y.x.name, .string y.x.src, .int .i64 y.x.n, .slice y.q y.x.args.length y.c, .slice y.q1 y.x.thn.length y.c1, .slice y.q2 y.x.els.length y.c2]) 46)
          obtain ⟨v1, wb, hr1, hro, hb1⟩ := clone_new stmtTy (w := W10.drew.alloc (.cells (#[.int .i64 y.x.kind, .string y.x.name, .string y.x.src, .int .i64 y.x.n, .slice y.q y.x.args.length y.c, .slice y.q1 y.x.thn.length y.c1, .slice y.q2 y.x.els.length y.c2]) 46)) (src := z.q) (m := z.t.body.length) (c := z.c) (r := L) HLN.out (HL2.out.sub hbc.sub) HLE.out
          have hnew := hb1.stays hnew
          refine appU (.const (.slice none 0 0)) (.tmp 75) 44 rfl _ _ _ (by kernel_rfl) (by kernel_rfl) hr1 ?_
          refine hK.out _ _ (hbc.trans hb1) (fun _ => ?_)
          clear hK K
          simp only [List.setIfInBounds_toArray, List.set_cons_zero, List.set_cons_succ]
          refine oneU 79 (i := 5) rfl rfl (by kernel_rfl) (by kernel_rfl) (fun K hK => ?_)
          obtain ⟨vx, wd, hr2, ho2, hs2, hn2⟩ := one_more2 stmtTy hro y (c := 1) hnew rfl (by have := HLN.out; have := HLE.out; omega) hb1.size
          obtain ⟨p4, c4, hvx⟩ := row_form stmtTy.len ho2 HNL.out
          subst hvx
          have hwd : Bel W10 wd := hs2.bel (hbc.trans hb1) (fun b hb => by have h1 := own_ge hro b hb; have h2 := hbc.size; omega)
          have hx9 := hwd.stays HX16.out
          have z5 : wd.cell? ⟨g16, 5, none⟩ = some (.slice z.q z.t.body.length z.c) := cell_of_heap hx9 5
          have f5 := frozen_of_heap hx9 5
          refine appU (.tmp 76) (.tmp 78) 44 rfl _ _ _ (by kernel_rfl) (by kernel_rfl) hr2 ?_
          refine hK.out _ _ hwd (fun hMA => ?_)
          clear hK K
          simp only [List.setIfInBounds_toArray, List.set_cons_zero, List.set_cons_succ]
          refine takeU 80 (i := 6) (v := ?v5) rfl rfl rfl (by kernel_rfl) (by kernel_rfl) (by kernel_rfl) (by kernel_rfl) (fun _ _ _ h => h) (by kernel_rfl) ?hy5 hwd ?rest5
          case hy5 => (intro w0 hSw; obtain ⟨s5, y0, y1, y2, y3, y4, y5, y6⟩ := HF.out _ hSw; first | (go_simp; done) | (go_simp; with_reducible rfl))
          simp only [List.setIfInBounds_toArray, List.set_cons_zero, List.set_cons_succ]
          refine lastU rfl rfl (by kernel_rfl) (by kernel_rfl) (fun K hK => ?_)
          go_simp
          refine hK.out undef _ ?_
          clear hK K
          refine Upto.done (by kernel_rfl) ?_ _
          go_wp2_with fail
          go_meet
          have hse := Svg.set g16 5 wd (.slice p4 nl c4)
          have hxn : (wd.setCell ⟨g16, 5, none⟩ (.slice p4 nl c4)).heap[g16]? = some (.cells #[.string z.t.name, .bool z.t.handler, .int .i64 z.t.hart, .int .i64 z.t.prio, .int .i64 z.t.line, .slice p4 nl c4] 48 (0, 0)) := by simp [World.setCell, Array.getElem?_modify, hx9]
          have hbase := hbc.size
          have h16 := lt_of_heap HX16.out
          exact ⟨p4, c4, _, hbase, Lib.hid hxn, Lib.hid (ho2.sv hse (fun b hb e => by have h1 := own_ge ho2 b hb; omega)), Lib.hid (Svg.of hwd hse)⟩
      case rest =>
        obtain ⟨p4, c4, base, hbase, HXT, HR4, HV16⟩ := hcut
        have hbx := HB6.out.size
        have h16 := H16M.out
        have hbg := HBG.out
        have hB6x : Bel W7 wc := HV16.out.bel HB6.out (by rw [HMM.out]; exact h16)
        have hrx := HROW.out.bel hB6x
        have hxp := HV16.out.stays HXP.out H1016.out
        obtain ⟨qx, cx, hvx, he, _⟩ := hrx.form tskTy.len
        have hqx : some (⟨gT, 0, none⟩ : Addr) = qx := by injection hvx
        subst hqx
        obtain ⟨bx, ox, hpx, _, hcx⟩ := he k z HZ.out
        cases hpx
        have r0 : wc.cell? ⟨gT, k * 6, none⟩ = some (.string z.t.name) := by simpa using hcx 0 _ rfl
        have r1 : wc.cell? ⟨gT, k * 6 + 1, none⟩ = some (.bool z.t.handler) := by simpa using hcx 1 _ rfl
        have r2 : wc.cell? ⟨gT, k * 6 + 2, none⟩ = some (.int .i64 z.t.hart) := by simpa using hcx 2 _ rfl
        have r3 : wc.cell? ⟨gT, k * 6 + 3, none⟩ = some (.int .i64 z.t.prio) := by simpa using hcx 3 _ rfl
        have r4 : wc.cell? ⟨gT, k * 6 + 4, none⟩ = some (.int .i64 z.t.line) := by simpa using hcx 4 _ rfl
        have r5 : wc.cell? ⟨gT, k * 6 + 5, none⟩ = some (.slice z.q z.t.body.length z.c) := by simpa using hcx 5 _ rfl
        obtain ⟨cur, hcur⟩ : ∃ cur, wc.heap[gT]? = some (.cells cur 48 (0, 0)) := by
          rcases hrx.2 with ⟨hv, _⟩ | ⟨g, cap, cur, hv, _, hg, _⟩
          · cases hv
          · injection hv with h1
            injection h1 with h1
            injection h1 with h1
            subst h1
            exact ⟨cur, hg⟩
        have hgu : g10 ≠ gT := fun e => by
          subst e
          rw [hcur] at hxp
          have h9 := Option.some.inj hxp
          injection h9 with _ h9
          exact absurd h9 (by decide)
        have f0 := frozen_of_heap hcur (k * 6)
        have f1 := frozen_of_heap hcur (k * 6 + 1)
        have f2 := frozen_of_heap hcur (k * 6 + 2)
        have f3 := frozen_of_heap hcur (k * 6 + 3)
        have f4 := frozen_of_heap hcur (k * 6 + 4)
        have f5 := frozen_of_heap hcur (k * 6 + 5)
        have k3 : wc.cell? ⟨g10, 3, none⟩ = some (.slice (some ⟨gT, 0, none⟩) P.tasks.length b3) := cell_of_heap hxp 3
        rw [HNT.out] at k3
        have q0 : wc.cell? ⟨g16, 0, none⟩ = some (.string z.t.name) := cell_of_heap HXT.out 0
        have q1 : wc.cell? ⟨g16, 1, none⟩ = some (.bool z.t.handler) := cell_of_heap HXT.out 1
        have q2 : wc.cell? ⟨g16, 2, none⟩ = some (.int .i64 z.t.hart) := cell_of_heap HXT.out 2
        have q3 : wc.cell? ⟨g16, 3, none⟩ = some (.int .i64 z.t.prio) := cell_of_heap HXT.out 3
        have q4 : wc.cell? ⟨g16, 4, none⟩ = some (.int .i64 z.t.line) := cell_of_heap HXT.out 4
        have q5 : wc.cell? ⟨g16, 5, none⟩ = some (.slice p4 nl c4) := cell_of_heap HXT.out 5
        have HBX2 := Lib.hid hB6x
        have HGU := Lib.hid hgu
        have HXPE := Lib.hid hxp
        have HBASE := Lib.hid hbase
        clear hbx h16 hbg hB6x hrx hxp hvx he hcx hcur hgu hbase
        go_upto_region 14 with (fail)
        clear r0 r1 r2 r3 r4 r5 f0 f1 f2 f3 f4 f5 k3 q0 q1 q2 q3 q4 q5
        have hbg := HBG.out
        have hbt : SAt (mask gT wc) p4 (z.t.body ++ [y.x]) := by
          have hyk : PSok (mask gT wc) y := HYK.out.sub (ymask_mask (HV16.out.bel HBW.out (Nat.le_of_eq H16W.out)) (by have := HMM.out; omega))
          have h := more_body HR4.out (by have := HB6.out.size; have := HBASE.out; omega : gT < base) HL3.out HBX2.out hyk
          rw [List.map_append, HL1.out] at h
          exact h
        have hnb : nl = (z.t.body ++ [y.x]).length := by
          rw [HNL.out, List.length_append, List.length_append, HLN.out]
          rfl
        have hmo := more_at (k := k) (p4 := p4) (n := nl) (c4 := c4) hnb HPT.out HRP.out HBX2.out (HROW.out.bel HBX2.out) HZ.out HOK.out HDV.out HRS.out hbg.2.1 hbt
        have hsx := sv6 gT (k * 6) wc (.string z.t.name) (.bool z.t.handler) (.int .i64 z.t.hart) (.int .i64 z.t.prio) (.int .i64 z.t.line) (.slice p4 nl c4)
        generalize (((((wc.setCell ⟨gT, k * 6, none⟩ (.string z.t.name)).setCell ⟨gT, k * 6 + 1, none⟩ (.bool z.t.handler)).setCell ⟨gT, k * 6 + 2, none⟩ (.int .i64 z.t.hart)).setCell ⟨gT, k * 6 + 3, none⟩ (.int .i64 z.t.prio)).setCell ⟨gT, k * 6 + 4, none⟩ (.int .i64 z.t.line)).setCell ⟨gT, k * 6 + 5, none⟩ (.slice p4 nl c4) = WF at hmo hsx ⊢
        have hxf := hsx.stays HXPE.out HGU.out
        have hwF : Bel w WF := hsx.bel (HV16.out.bel HB7.out (by have := HB7M.out; have := H16M.out; omega)) (by have := HB1M.out; omega)
        obtain ⟨Mo, hMo⟩ : ∃ M, setTask P k (addS z.t y.x) = M := ⟨_, rfl⟩
        have hml : P.tasks.length = Mo.tasks.length := by
          rw [← hMo]
          show _ = (P.tasks.set k _).length
          rw [List.length_set]
        have hmh : Mo.harts = P.harts := by rw [← hMo]; rfl
        have hmd : Mo.devs = P.devs := by rw [← hMo]; rfl
        have hmr : Mo.rscs = P.rscs := by rw [← hMo]; rfl
        have hbad : right Mo = false := by
          rw [← hMo]
          refine wrong_right (by rw [HNT.out]; have := HKN.out; omega) ?_
          rw [HRX.out, HXX.out]
          exact rep_bad (bads_bad i HII.out) r 30
        rw [hMo] at hmo
        have hxm : WF.heap[g10]? = some (.cells (prgA a1 b1 a2 b2 (some ⟨gT, 0, none⟩) b3 Mo) 28 (0, 0)) := by
          rw [hxf]
          show some (Obj.cells #[.int .i64 P.harts, .slice a1 P.devs.length b1, .slice a2 P.rscs.length b2, .slice (some ⟨gT, 0, none⟩) P.tasks.length b3] _ _) = some (Obj.cells #[.int .i64 Mo.harts, .slice a1 Mo.devs.length b1, .slice a2 Mo.rscs.length b2, .slice (some ⟨gT, 0, none⟩) Mo.tasks.length b3] _ _)
          rw [hml, hmh, hmd, hmr]
        have HMO := Lib.hid hmo
        have HXM := Lib.hid hxm
        have HBD := Lib.hid hbad
        have HBF := Lib.hid hwF
        clear hbg hbt hnb hmo hsx hxf hwF hml hmh hmd hmr hbad hxm hMo
        have k0 : WF.cell? ⟨g10, 0, none⟩ = some (.int .i64 Mo.harts) := cell_of_heap HXM.out 0
        have k1 : WF.cell? ⟨g10, 1, none⟩ = some (.slice a1 Mo.devs.length b1) := cell_of_heap HXM.out 1
        have k2 : WF.cell? ⟨g10, 2, none⟩ = some (.slice a2 Mo.rscs.length b2) := cell_of_heap HXM.out 2
        have k3 : WF.cell? ⟨g10, 3, none⟩ = some (.slice (some ⟨gT, 0, none⟩) Mo.tasks.length b3) := cell_of_heap HXM.out 3
        go_wp2_with fail
        refine (Print_no (q1 := a1) (c1 := b1) (q2 := a2) (c2 := b2) (q3 := some ⟨gT, 0, none⟩) (c3 := b3) HBD.out _ HMO.out).mono ?_
        rintro e WG ⟨rfl, hb⟩
        have HMO := Lib.hid (HMO.out.bel hb)
        have HXM := Lib.hid (hb.stays HXM.out)
        have HBF := Lib.hid (HBF.out.trans hb)
        clear hb k0 k1 k2 k3
        have k0 : WG.cell? ⟨g10, 0, none⟩ = some (.int .i64 Mo.harts) := cell_of_heap HXM.out 0
        have k1 : WG.cell? ⟨g10, 1, none⟩ = some (.slice a1 Mo.devs.length b1) := cell_of_heap HXM.out 1
        have k2 : WG.cell? ⟨g10, 2, none⟩ = some (.slice a2 Mo.rscs.length b2) := cell_of_heap HXM.out 2
        have k3 : WG.cell? ⟨g10, 3, none⟩ = some (.slice (some ⟨gT, 0, none⟩) Mo.tasks.length b3) := cell_of_heap HXM.out 3
        go_wp2_with fail
        refine (right_lit (q1 := a1) (c1 := b1) (q2 := a2) (c2 := b2) (q3 := some ⟨gT, 0, none⟩) (c3 := b3) HBD.out _ HMO).mono ?_
        rintro e WH ⟨rfl, hb⟩
        have HBF := Lib.hid (HBF.out.trans hb)
        clear hb k0 k1 k2 k3
        go_wp2_with fail
        go_ret
        exact ⟨rfl, HBF.out⟩
end Go.Proofs.YthlnjnmomnpnpaaDoor
