/- AxiomTells' walk. -/
import Derived.Test.YtigefdoejcggpaaNRefD
import Derived.Test.YtigefdoejcggpaaNPlays
import Derived.Test.YtigefdoejcggpaaNFences
import Derived.Deep.DeepCutAuto
import Derived.Deep.CutBlock
namespace Go.Proofs.Ytigefdoejcggpaa
open Go.RowKit Ax
set_option linter.unusedVariables false
set_option linter.unusedSimpArgs false
theorem ordGo_len (f : Nat) (left ps : List Int) : (ordGo f left ps).length ≤ f := by
  induction f generalizing left ps with
  | zero => exact Nat.le_refl 0
  | succ f ih =>
    unfold ordGo
    split
    · exact Nat.zero_le _
    · simp only [List.length_cons]
      have := ih (left.eraseIdx (kOf left ps)) ps.tail
      omega
theorem ordV_len (l : List Ev) (ps : List Int) : (ordV l ps).length ≤ l.length := Nat.le_trans (ordGo_len _ _ _) (accs_len l l.length)
theorem take9 {α : Type} {l : List α} {n n1 : Nat} (hn : l.length = n) (h : n1 = if 9 < n then 9 else n) : (l.take 9).length = n1 := by
  rw [List.length_take, hn, h]
  split <;> omega
/-- a row of three lists of events, or of two lists of places -/
def Three (w : World) (cs : Array Value) : Prop := ∀ a : Nat, a < 3 → ∃ (p : Option Addr) (n c : Nat) (l : List Ev), cs[a]? = some (.slice p n c) ∧ LAt w p l ∧ l.length = n ∧ n ≤ c ∧ n ≤ 9
def Twos (w : World) (cs : Array Value) : Prop := ∀ a : Nat, a < 2 → ∃ (p : Option Addr) (n c : Nat) (l : List Int), cs[a]? = some (.slice p n c) ∧ IAt w p l ∧ l.length = n ∧ n ≤ c ∧ n ≤ 9
theorem Three.bel {w w' : World} {cs : Array Value} (h : Three w cs) (hb : Bel w w') : Three w' cs := fun a ha => by
  obtain ⟨p, n, c, l, h1, h2, h3⟩ := h a ha
  exact ⟨p, n, c, l, h1, LAt.bel h2 hb, h3⟩
theorem Twos.bel {w w' : World} {cs : Array Value} (h : Twos w cs) (hb : Bel w w') : Twos w' cs := fun a ha => by
  obtain ⟨p, n, c, l, h1, h2, h3⟩ := h a ha
  exact ⟨p, n, c, l, h1, IAt.bel h2 hb, h3⟩
theorem Three.mk {w : World} {p1 p2 p3 : Option Addr} {n1 c1 n2 c2 n3 c3 : Nat} {l1 l2 l3 : List Ev} (h1 : LAt w p1 l1) (a1 : l1.length = n1) (b1 : n1 ≤ c1) (d1 : n1 ≤ 9) (h2 : LAt w p2 l2) (a2 : l2.length = n2) (b2 : n2 ≤ c2) (d2 : n2 ≤ 9) (h3 : LAt w p3 l3) (a3 : l3.length = n3) (b3 : n3 ≤ c3) (d3 : n3 ≤ 9) : Three w #[.slice p1 n1 c1, .slice p2 n2 c2, .slice p3 n3 c3] := fun a ha => by
  match a, ha with
  | 0, _ => exact ⟨p1, n1, c1, l1, rfl, h1, a1, b1, d1⟩
  | 1, _ => exact ⟨p2, n2, c2, l2, rfl, h2, a2, b2, d2⟩
  | 2, _ => exact ⟨p3, n3, c3, l3, rfl, h3, a3, b3, d3⟩
theorem Twos.mk {w : World} {p1 p2 : Option Addr} {n1 c1 n2 c2 : Nat} {l1 l2 : List Int} (h1 : IAt w p1 l1) (a1 : l1.length = n1) (b1 : n1 ≤ c1) (d1 : n1 ≤ 9) (h2 : IAt w p2 l2) (a2 : l2.length = n2) (b2 : n2 ≤ c2) (d2 : n2 ≤ 9) : Twos w #[.slice p1 n1 c1, .slice p2 n2 c2] := fun a ha => by
  match a, ha with
  | 0, _ => exact ⟨p1, n1, c1, l1, rfl, h1, a1, b1, d1⟩
  | 1, _ => exact ⟨p2, n2, c2, l2, rfl, h2, a2, b2, d2⟩
/-- two pairs of places -/
theorem pairs4 (i k u v : Int) (e : Nat) (he : e < 2) : ∃ y z : Int, (#[.int .i64 i, .int .i64 k, .int .i64 u, .int .i64 v] : Array Value)[e * 2]? = some (.int .i64 y) ∧ (#[.int .i64 i, .int .i64 k, .int .i64 u, .int .i64 v] : Array Value)[e * 2 + 1]? = some (.int .i64 z) := by
  match e, he with
  | 0, _ => exact ⟨i, k, rfl, rfl⟩
  | 1, _ => exact ⟨u, v, rfl, rfl⟩
set_option maxRecDepth 100000 in
set_option maxHeartbeats 4000000 in
theorem tells_walk {w : World} {p q r s : Option Addr} {l : List Ev} {o ps : List Int} {raw : List Q4} {n c m d n3 c3 n4 c4 : Nat} (hl : LAt w p l) (hn : l.length = n) (hnc : n ≤ c) (ho : IAt w q o) (hm : o.length = m) (hmd : m ≤ d) (hr : LAt w r raw) (hn3 : raw.length = n3) (hw : ∀ x ∈ raw, in4 x) (hs : IAt w s ps) (hn4 : ps.length = n4) (hwp : ∀ x ∈ ps, inInt x) {i k : Int} (hi : inInt i) (hk : inInt k) {x0 x1 x2 x3 : Int} :
    Calls Try.prog 3 #[.slice p n c, .slice q m d, .slice r n3 c3, .slice s n4 c4, .int .i64 i, .int .i64 k, .agg #[.int .i64 x0, .int .i64 x1, .int .i64 x2, .int .i64 x3]] w (OneB true w) := by
  obtain ⟨hb, hx1⟩ := box1 w #[.int .i64 x0, .int .i64 x1, .int .i64 x2, .int .i64 x3] 26
  have HB := Lib.hid hb
  have HX := Lib.hid hx1
  have HL := Lib.hid (LAt.bel hl hb)
  have HO := Lib.hid (IAt.bel ho hb)
  have HR := Lib.hid (LAt.bel hr hb)
  have HS := Lib.hid (IAt.bel hs hb)
  have HN := Lib.hid hn
  have HNC := Lib.hid hnc
  have HM := Lib.hid hm
  have HMD := Lib.hid hmd
  have HN3 := Lib.hid hn3
  have HW := Lib.hid hw
  have HN4 := Lib.hid hn4
  have HWP := Lib.hid hwp
  have HI := Lib.hid hi
  have HK := Lib.hid hk
  clear hl hn hnc ho hm hmd hr hn3 hw hs hn4 hwp hi hk hb hx1
  go_enter Try.func3, Try.ntmps3
  go_upto_region 1 with (fail)
  generalize hWW : w.alloc (.cells #[.int .i64 x0, .int .i64 x1, .int .i64 x2, .int .i64 x3] 26) = W1 at HB HX HL HO HR HS ⊢
  clear hWW
  generalize w.heap.size = g1 at HX ⊢
  go_wp2_with fail
  refine (awake_any _).mono ?_
  rintro e wa ⟨rfl, hba⟩
  have HBA := Lib.hid hba
  clear hba
  go_upto_if 31 with (fail)
  go_cut [0] (fun v wx => ∃ n1 : Nat, v = .slice p n1 c ∧ Hid (Bel W1 wx) ∧ n1 ≤ 9 ∧ Hid ((l.take 9).length = n1 ∧ n1 ≤ c))
  case first =>
    by_cases hgt : 9 < n
    · have hgt2 : (n : Int) > 9 := by omega
      have hgt3 : (9 : Int) < n := by omega
      have hc9 : (9 : Int) ≤ c := by have := HNC.out; omega
      obtain ⟨b, ob, rfl, -, -⟩ := LAt.get HL.out (i0 := 0) (by have := HN.out; omega)
      have hf : (c = 0) = False := eq_false (by omega)
      go_wp2_with fail
      go_meet
      exact ⟨9, rfl, HBA, Nat.le_refl _, Lib.hid ⟨take9 HN.out (by rw [if_pos hgt]), by omega⟩⟩
    · have hgt3 : ¬ (9 : Int) < n := by omega
      go_wp2_with fail
      go_meet
      exact ⟨n, rfl, HBA, by omega, Lib.hid ⟨take9 HN.out (by rw [if_neg hgt]), HNC.out⟩⟩
  case rest =>
  clear HBA
  obtain ⟨n1, rfl, HBA, h19, HN1⟩ := hcut
  have HL := Lib.hid (EncAt.take HL.out 9)
  clear HN HNC
  generalize l.take 9 = l1 at HL HN1
  go_upto_if 36 with (fail)
  go_cut [1] (fun v wx => ∃ m1 : Nat, v = .slice q m1 d ∧ Hid (Bel W1 wx) ∧ m1 ≤ 9 ∧ Hid ((o.take 9).length = m1 ∧ m1 ≤ d))
  case first =>
    by_cases hgt : 9 < m
    · have hgt2 : (m : Int) > 9 := by omega
      have hgt3 : (9 : Int) < m := by omega
      have hc9 : (9 : Int) ≤ d := by have := HMD.out; omega
      obtain ⟨b, ob, rfl, -, -⟩ := IAt.get HO.out (i0 := 0) (by have := HM.out; omega)
      have hf : (d = 0) = False := eq_false (by omega)
      go_wp2_with fail
      go_meet
      exact ⟨9, rfl, HBA, Nat.le_refl _, Lib.hid ⟨take9 HM.out (by rw [if_pos hgt]), by omega⟩⟩
    · have hgt3 : ¬ (9 : Int) < m := by omega
      go_wp2_with fail
      go_meet
      exact ⟨m, rfl, HBA, by omega, Lib.hid ⟨take9 HM.out (by rw [if_neg hgt]), HMD.out⟩⟩
  case rest =>
  clear HBA
  obtain ⟨m1, rfl, HBA, h29, HM1⟩ := hcut
  have HO := Lib.hid (EncAt.take HO.out 9)
  clear HM HMD
  generalize o.take 9 = o1 at HO HM1
  go_wp2_with fail
  refine (fit_lit (LAt.bel HR.out HBA.out) HN3.out HW.out).mono ?_
  rintro e wf ⟨p2, n2, c2, rfl, hbf, hef⟩
  have HBF := Lib.hid (HBA.out.trans hbf)
  have HG2 : Hid ((fitV raw).length ≤ 6) := Lib.hid (fit_small raw).len
  generalize fitV raw = g at hef HG2
  have HG : Hid (LAt wf p2 g) := Lib.hid (ERow.lat (s := ⟨p2, n2, c2⟩) hef)
  have HNG : Hid (g.length = n2) := Lib.hid (ERow.n (s := ⟨p2, n2, c2⟩) hef).symm
  have HCG : Hid (n2 ≤ c2) := Lib.hid (ERow.c (s := ⟨p2, n2, c2⟩) hef)
  have hn6 : n2 ≤ 6 := by have := HNG.out; have := HG2.out; omega
  clear hbf hef HR HN3 HW
  have HXF := Lib.hid (HBF.out.stays HX.out)
  go_upto_region 7 with (fail)
  go_cut [17] (fun v wx => ∃ (p5 : Option Addr) (c5 : Nat), v = .slice p5 (n2 + 1) c5 ∧ n2 + 1 ≤ c5 ∧ Hid (Bel wf wx) ∧ Hid (LAt wx p5 (g ++ [((x0, x1, x2, x3) : Ev)])))
  case first =>
    refine wp_region_held_drew (S := fun _ => True) (by kernel_rfl) trivial (fun _ => ?_)
    refine takeD 41 (i := 0) (v := ?v1) rfl rfl (by kernel_rfl) (by kernel_rfl) (by kernel_rfl) (fun _ _ _ h => h) (by kernel_rfl) ?hy1 trivial ?rest1
    case hy1 => (intro w0 hSw; first | (go_simp; done) | (go_simp; with_reducible rfl))
    try simp only [List.setIfInBounds_toArray, List.set_cons_zero, List.set_cons_succ]
    refine twoE 42 43 (i1 := 1) (i2 := 2) rfl rfl rfl rfl (by kernel_rfl) (by kernel_rfl) (by kernel_rfl) (fun K hK => ?_) (fun K hK => ?_)
    · try simp only [List.setIfInBounds_toArray, List.set_cons_zero, List.set_cons_succ] at hK
      obtain ⟨v3, w3, hr3, ho3, hb3⟩ := clone_new evTy (w := wf.drew) (src := p2) (m := n2) (c := c2) HNG.out (LAt.bel HG.out (Bel.refl wf).drew) (by omega)
      obtain ⟨p3, c3', e3, -, -⟩ := ERow.form encQ_len ho3
      rw [HNG.out] at e3
      subst e3
      have HR3 := Lib.hid hr3
      have HO3 := Lib.hid ho3
      have HB9 : Hid (Bel wf w3) := Lib.hid ((Bel.refl wf).drew.trans hb3)
      clear hr3 ho3 hb3
      refine appE (.const (.slice none 0 0)) (.tmp 41) 22 rfl _ _ _ (by rfl) (by rfl) HR3.out ?_
      try simp only [List.setIfInBounds_toArray, List.set_cons_zero, List.set_cons_succ]
      refine hK _ _ trivial (fun _ => ?_)
      clear hK K
      refine onlyE 43 (i := 2) rfl rfl (by kernel_rfl) (by kernel_rfl) (fun K hK => ?_)
      try simp only [List.setIfInBounds_toArray, List.set_cons_zero, List.set_cons_succ] at hK
      have c0 := cell_of_heap (HB9.out.stays HXF.out) 0
      have c1 := cell_of_heap (HB9.out.stays HXF.out) 1
      have c2 := cell_of_heap (HB9.out.stays HXF.out) 2
      have c3 := cell_of_heap (HB9.out.stays HXF.out) 3
      simp only [List.getElem?_toArray, List.getElem?_cons_zero, List.getElem?_cons_succ] at c0 c1 c2 c3
      go_simp
      clear c0 c1 c2 c3
      refine hK _ _ trivial (fun _ => ?_)
      clear hK K
      refine onlyE 44 (i := 3) rfl rfl (by kernel_rfl) (by kernel_rfl) (fun K hK => ?_)
      try simp only [List.setIfInBounds_toArray, List.set_cons_zero, List.set_cons_succ] at hK
      go_simp
      refine hK _ _ trivial (fun _ => ?_)
      have hxb := heap_alloc_new w3 (.cells #[.int .i64 x0, .int .i64 x1, .int .i64 x2, .int .i64 x3] 26)
      have hbb : Bel w3 (w3.alloc (.cells #[.int .i64 x0, .int .i64 x1, .int .i64 x2, .int .i64 x3] 26)) := (Bel.refl _).alloc _ _
      generalize hWW : w3.alloc (.cells #[.int .i64 x0, .int .i64 x1, .int .i64 x2, .int .i64 x3] 26) = wB at hxb hbb ⊢
      clear hWW
      generalize w3.heap.size = gB at hxb ⊢
      have HXB := Lib.hid hxb
      have HO3 := Lib.hid (HO3.out.bel hbb)
      have HBB := Lib.hid (HB9.out.trans hbb)
      clear hxb hbb
      clear hK K
      refine onlyE 45 (i := 4) rfl rfl (by kernel_rfl) (by kernel_rfl) (fun K hK => ?_)
      try simp only [List.setIfInBounds_toArray, List.set_cons_zero, List.set_cons_succ] at hK
      obtain ⟨p8, c8, w8, hr8, ho8, hl8⟩ := push_at evTy HO3.out (x := ((x0, x1, x2, x3) : Ev)) HXB.out rfl (by have := HNG.out; omega) (HBB.out.size) (c1 := 1)
      have HR8 := Lib.hid hr8
      have HO8 := Lib.hid ho8
      have HB8 : Hid (Bel wf w8) := Lib.hid (hl8 _ HBB.out rfl)
      clear hr8 ho8 hl8
      refine appE (.tmp 42) (.tmp 44) 22 rfl _ _ _ (by rfl) (by rfl) HR8.out ?_
      try simp only [List.setIfInBounds_toArray, List.set_cons_zero, List.set_cons_succ]
      refine hK _ _ trivial (fun _ => ?_)
      clear hK K
      refine takeD 17 (i := 5) (v := ?v2) rfl rfl (by kernel_rfl) (by kernel_rfl) (by kernel_rfl) (fun _ _ _ h => h) (by kernel_rfl) ?hy2 trivial ?rest2
      case hy2 => (intro w0 hSw; first | (go_simp; done) | (go_simp; with_reducible rfl))
      try simp only [List.setIfInBounds_toArray, List.set_cons_zero, List.set_cons_succ]
      refine wpAnyH_done (by kernel_rfl) ?_ _
      have HC8 : Hid (n2 + 1 ≤ c8) := Lib.hid (ERow.c (s := ⟨p8, n2 + 1, c8⟩) HO8.out)
      go_wp2_with fail
      go_meet
      exact ⟨p8, c8, rfl, HC8.out, HB8, Lib.hid (ERow.lat (s := ⟨p8, n2 + 1, c8⟩) HO8.out)⟩
    · try simp only [List.setIfInBounds_toArray, List.set_cons_zero, List.set_cons_succ] at hK
      have c0 := cell_of_heap ((Bel.refl wf).drew.stays HXF.out) 0
      have c1 := cell_of_heap ((Bel.refl wf).drew.stays HXF.out) 1
      have c2 := cell_of_heap ((Bel.refl wf).drew.stays HXF.out) 2
      have c3 := cell_of_heap ((Bel.refl wf).drew.stays HXF.out) 3
      simp only [List.getElem?_toArray, List.getElem?_cons_zero, List.getElem?_cons_succ] at c0 c1 c2 c3
      go_simp
      clear c0 c1 c2 c3
      refine hK _ _ trivial (fun _ => ?_)
      clear hK K
      refine twoE 42 44 (i1 := 1) (i2 := 3) rfl rfl rfl rfl (by kernel_rfl) (by kernel_rfl) (by kernel_rfl) (fun K hK => ?_) (fun K hK => ?_)
      · try simp only [List.setIfInBounds_toArray, List.set_cons_zero, List.set_cons_succ] at hK
        obtain ⟨v3, w3, hr3, ho3, hb3⟩ := clone_new evTy (w := wf.drew) (src := p2) (m := n2) (c := c2) HNG.out (LAt.bel HG.out (Bel.refl wf).drew) (by omega)
        obtain ⟨p3, c3', e3, -, -⟩ := ERow.form encQ_len ho3
        rw [HNG.out] at e3
        subst e3
        have HR3 := Lib.hid hr3
        have HO3 := Lib.hid ho3
        have HB9 : Hid (Bel wf w3) := Lib.hid ((Bel.refl wf).drew.trans hb3)
        clear hr3 ho3 hb3
        refine appE (.const (.slice none 0 0)) (.tmp 41) 22 rfl _ _ _ (by rfl) (by rfl) HR3.out ?_
        try simp only [List.setIfInBounds_toArray, List.set_cons_zero, List.set_cons_succ]
        refine hK _ _ trivial (fun _ => ?_)
        clear hK K
        refine onlyE 44 (i := 3) rfl rfl (by kernel_rfl) (by kernel_rfl) (fun K hK => ?_)
        try simp only [List.setIfInBounds_toArray, List.set_cons_zero, List.set_cons_succ] at hK
        go_simp
        refine hK _ _ trivial (fun _ => ?_)
        have hxb := heap_alloc_new w3 (.cells #[.int .i64 x0, .int .i64 x1, .int .i64 x2, .int .i64 x3] 26)
        have hbb : Bel w3 (w3.alloc (.cells #[.int .i64 x0, .int .i64 x1, .int .i64 x2, .int .i64 x3] 26)) := (Bel.refl _).alloc _ _
        generalize hWW : w3.alloc (.cells #[.int .i64 x0, .int .i64 x1, .int .i64 x2, .int .i64 x3] 26) = wB at hxb hbb ⊢
        clear hWW
        generalize w3.heap.size = gB at hxb ⊢
        have HXB := Lib.hid hxb
        have HO3 := Lib.hid (HO3.out.bel hbb)
        have HBB := Lib.hid (HB9.out.trans hbb)
        clear hxb hbb
        clear hK K
        refine onlyE 45 (i := 4) rfl rfl (by kernel_rfl) (by kernel_rfl) (fun K hK => ?_)
        try simp only [List.setIfInBounds_toArray, List.set_cons_zero, List.set_cons_succ] at hK
        obtain ⟨p8, c8, w8, hr8, ho8, hl8⟩ := push_at evTy HO3.out (x := ((x0, x1, x2, x3) : Ev)) HXB.out rfl (by have := HNG.out; omega) (HBB.out.size) (c1 := 1)
        have HR8 := Lib.hid hr8
        have HO8 := Lib.hid ho8
        have HB8 : Hid (Bel wf w8) := Lib.hid (hl8 _ HBB.out rfl)
        clear hr8 ho8 hl8
        refine appE (.tmp 42) (.tmp 44) 22 rfl _ _ _ (by rfl) (by rfl) HR8.out ?_
        try simp only [List.setIfInBounds_toArray, List.set_cons_zero, List.set_cons_succ]
        refine hK _ _ trivial (fun _ => ?_)
        clear hK K
        refine takeD 17 (i := 5) (v := ?v3) rfl rfl (by kernel_rfl) (by kernel_rfl) (by kernel_rfl) (fun _ _ _ h => h) (by kernel_rfl) ?hy3 trivial ?rest3
        case hy3 => (intro w0 hSw; first | (go_simp; done) | (go_simp; with_reducible rfl))
        try simp only [List.setIfInBounds_toArray, List.set_cons_zero, List.set_cons_succ]
        refine wpAnyH_done (by kernel_rfl) ?_ _
        have HC8 : Hid (n2 + 1 ≤ c8) := Lib.hid (ERow.c (s := ⟨p8, n2 + 1, c8⟩) HO8.out)
        go_wp2_with fail
        go_meet
        exact ⟨p8, c8, rfl, HC8.out, HB8, Lib.hid (ERow.lat (s := ⟨p8, n2 + 1, c8⟩) HO8.out)⟩
      · try simp only [List.setIfInBounds_toArray, List.set_cons_zero, List.set_cons_succ] at hK
        go_simp
        refine hK _ _ trivial (fun _ => ?_)
        have hxb : (wf.alloc (.cells #[.int .i64 x0, .int .i64 x1, .int .i64 x2, .int .i64 x3] 26)).drew.heap[wf.heap.size]? = some (.cells #[.int .i64 x0, .int .i64 x1, .int .i64 x2, .int .i64 x3] 26 (0, 0)) := heap_alloc_new wf (.cells #[.int .i64 x0, .int .i64 x1, .int .i64 x2, .int .i64 x3] 26)
        have hbb : Bel wf (wf.alloc (.cells #[.int .i64 x0, .int .i64 x1, .int .i64 x2, .int .i64 x3] 26)).drew := ((Bel.refl _).alloc _ _).drew
        generalize hWW : (wf.alloc (.cells #[.int .i64 x0, .int .i64 x1, .int .i64 x2, .int .i64 x3] 26)).drew = wB at hxb hbb ⊢
        clear hWW
        have HXB := Lib.hid hxb
        have HBB : Hid (Bel wf wB) := Lib.hid hbb
        clear hxb hbb
        clear hK K
        refine onlyE 42 (i := 1) rfl rfl (by kernel_rfl) (by kernel_rfl) (fun K hK => ?_)
        try simp only [List.setIfInBounds_toArray, List.set_cons_zero, List.set_cons_succ] at hK
        obtain ⟨v3, w3, hr3, ho3, hb3⟩ := clone_new evTy (w := wB) (src := p2) (m := n2) (c := c2) HNG.out (LAt.bel HG.out HBB.out) (by omega)
        obtain ⟨p3, c3', e3, -, -⟩ := ERow.form encQ_len ho3
        rw [HNG.out] at e3
        subst e3
        have HR3 := Lib.hid hr3
        have HO3 := Lib.hid ho3
        have HB9 := Lib.hid hb3
        have HXB := Lib.hid (hb3.stays HXB.out)
        clear hr3 ho3 hb3
        refine appE (.const (.slice none 0 0)) (.tmp 41) 22 rfl _ _ _ (by rfl) (by rfl) HR3.out ?_
        try simp only [List.setIfInBounds_toArray, List.set_cons_zero, List.set_cons_succ]
        refine hK _ _ trivial (fun _ => ?_)
        clear hK K
        refine onlyE 45 (i := 4) rfl rfl (by kernel_rfl) (by kernel_rfl) (fun K hK => ?_)
        try simp only [List.setIfInBounds_toArray, List.set_cons_zero, List.set_cons_succ] at hK
        obtain ⟨p8, c8, w8, hr8, ho8, hl8⟩ := push_at evTy HO3.out (x := ((x0, x1, x2, x3) : Ev)) HXB.out rfl (by have := HNG.out; omega) (HB9.out.size) (c1 := 1)
        have HR8 := Lib.hid hr8
        have HO8 := Lib.hid ho8
        have HB8 : Hid (Bel wf w8) := Lib.hid (HBB.out.trans (hl8 _ HB9.out rfl))
        clear hr8 ho8 hl8
        refine appE (.tmp 42) (.tmp 44) 22 rfl _ _ _ (by rfl) (by rfl) HR8.out ?_
        try simp only [List.setIfInBounds_toArray, List.set_cons_zero, List.set_cons_succ]
        refine hK _ _ trivial (fun _ => ?_)
        clear hK K
        refine takeD 17 (i := 5) (v := ?v4) rfl rfl (by kernel_rfl) (by kernel_rfl) (by kernel_rfl) (fun _ _ _ h => h) (by kernel_rfl) ?hy4 trivial ?rest4
        case hy4 => (intro w0 hSw; first | (go_simp; done) | (go_simp; with_reducible rfl))
        try simp only [List.setIfInBounds_toArray, List.set_cons_zero, List.set_cons_succ]
        refine wpAnyH_done (by kernel_rfl) ?_ _
        have HC8 : Hid (n2 + 1 ≤ c8) := Lib.hid (ERow.c (s := ⟨p8, n2 + 1, c8⟩) HO8.out)
        go_wp2_with fail
        go_meet
        exact ⟨p8, c8, rfl, HC8.out, HB8, Lib.hid (ERow.lat (s := ⟨p8, n2 + 1, c8⟩) HO8.out)⟩
  case rest =>
  obtain ⟨p5, c5, rfl, h5, HB5, HBAD⟩ := hcut
  have HG5 := Lib.hid (LAt.bel HG.out HB5.out)
  have HL5 := Lib.hid (LAt.bel HL.out (HBF.out.trans HB5.out))
  have HO5 := Lib.hid (IAt.bel HO.out (HBF.out.trans HB5.out))
  have HS5 := Lib.hid (IAt.bel HS.out (HBF.out.trans HB5.out))
  have HB5 := Lib.hid (HB.out.trans (HBF.out.trans HB5.out))
  have HT : Hid (Three wc #[.slice p n1 c, .slice p2 n2 c2, .slice p5 (n2 + 1) c5]) := Lib.hid (Three.mk HL5.out HN1.out.1 HN1.out.2 h19 HG5.out HNG.out HCG.out (by omega) HBAD.out (by rw [List.length_append, HNG.out]; rfl) h5 (by omega))
  obtain ⟨hb8, hx8⟩ := box1 wc #[.slice p n1 c, .slice p2 n2 c2, .slice p5 (n2 + 1) c5] 22
  have HB8 := Lib.hid hb8
  have HX8 := Lib.hid hx8
  clear hb8 hx8 HL HN1 HG HNG HCG HBAD HG5 HL5 HX HXF HG2 HBF HBA HB HO HS h19 hn6 h5
  go_upto_region 9 with (fail)
  generalize hWW : wc.alloc (.cells #[.slice p n1 c, .slice p2 n2 c2, .slice p5 (n2 + 1) c5] 22) = W8 at HB8 HX8 ⊢
  clear hWW
  generalize wc.heap.size = g8 at HX8 ⊢
  generalize hcs : (#[.slice p n1 c, .slice p2 n2 c2, .slice p5 (n2 + 1) c5] : Array Value) = cs at HT HX8
  clear hcs
  have HT := Lib.hid (HT.out.bel HB8.out)
  have HO8 := Lib.hid (IAt.bel HO5.out HB8.out)
  have HS8 := Lib.hid (IAt.bel HS5.out HB8.out)
  have HB8 := Lib.hid (HB5.out.trans HB8.out)
  clear HO5 HS5 HB5
  go_loopw [51] (fun v wr => ∃ a : Nat, a ≤ 3 ∧ v = .int .i64 a ∧ Hid (Bel W8 wr)) (fun v _ => 3 - (intOf v).toNat)
  case atStart => exact ⟨0, Nat.zero_le _, rfl, Lib.hid (Bel.refl _)⟩
  case round =>
    obtain ⟨a, ha, rfl, HBR⟩ := hrel
    by_cases hlt : a < 3
    · obtain ⟨pa, na, ca, y, h1, h2, h3, h4, h5⟩ := HT.out a hlt
      have k8 := (cell_of_heap (HBR.out.stays HX8.out) a).trans h1
      have HY := Lib.hid (LAt.bel h2 HBR.out)
      have HNY := Lib.hid h3
      have HNCY := Lib.hid h4
      have HN5 : Hid (na ≤ 5000) := Lib.hid (by omega)
      have hlt2 : (a : Int) < 3 := by omega
      clear h1 h2 h3 h4
      go_wp2_with fail
      refine (order_any HY.out HNY.out (by omega) (IAt.bel HS8.out HBR.out) HN4.out HWP.out).mono ?_
      rintro e wo ⟨p6, n6, c6, rfl, hbo, heo⟩
      have HBO := Lib.hid hbo
      have HT2 : Hid (Twos wo #[.slice q m1 d, .slice p6 n6 c6]) := Lib.hid (Twos.mk (IAt.bel HO8.out (HBR.out.trans hbo)) HM1.out.1 HM1.out.2 h29 (ERow.iat (s := ⟨p6, n6, c6⟩) heo) (ERow.n (s := ⟨p6, n6, c6⟩) heo).symm (ERow.c (s := ⟨p6, n6, c6⟩) heo) (by have h6 : n6 = (ordV y ps).length := ERow.n (s := ⟨p6, n6, c6⟩) heo; have := ordV_len y ps; have := HNY.out; omega))
      obtain ⟨hb11, hx11⟩ := box1 wo #[.slice q m1 d, .slice p6 n6 c6] 23
      have HB11 := Lib.hid hb11
      have HX11 := Lib.hid hx11
      clear hbo heo hb11 hx11 k8
      go_upto_region 12 with (fail)
      generalize hWW : wo.alloc (.cells #[.slice q m1 d, .slice p6 n6 c6] 23) = W11 at HB11 HX11 ⊢
      clear hWW
      generalize wo.heap.size = g11 at HX11 ⊢
      generalize hcs : (#[.slice q m1 d, .slice p6 n6 c6] : Array Value) = cs2 at HT2 HX11
      clear hcs
      have HT2 := Lib.hid (HT2.out.bel HB11.out)
      have HY11 := Lib.hid (LAt.bel HY.out (HBO.out.trans HB11.out))
      have HB11 := Lib.hid (HBR.out.trans (HBO.out.trans HB11.out))
      clear HY HBO HBR
      go_loopw [61] (fun v wr => ∃ b : Nat, b ≤ 2 ∧ v = .int .i64 b ∧ Hid (Bel W11 wr)) (fun v _ => 2 - (intOf v).toNat)
      case atStart => exact ⟨0, Nat.zero_le _, rfl, Lib.hid (Bel.refl _)⟩
      case round =>
        obtain ⟨b, hb, rfl, HBR⟩ := hrel
        by_cases hltb : b < 2
        · obtain ⟨pb, nb, cb, z, h1, h2, h3, h4, h6⟩ := HT2.out b hltb
          have k11 := (cell_of_heap (HBR.out.stays HX11.out) b).trans h1
          have HZ := Lib.hid (IAt.bel h2 HBR.out)
          have HNZ := Lib.hid h3
          have HNCZ := Lib.hid h4
          have HM5 : Hid (nb ≤ 5000) := Lib.hid (by omega)
          have hltb2 : (b : Int) < 2 := by omega
          obtain ⟨u, hu⟩ : ∃ u, pick i 7 = u := ⟨_, rfl⟩
          obtain ⟨v, hv⟩ : ∃ v, pick k 7 = v := ⟨_, rfl⟩
          have HU := Lib.hid hu
          have HV := Lib.hid hv
          clear h1 h2 h3 h4 hu hv
          go_wp2_with fail
          refine (pick_lit HU.out HI.out (by decide) _).mono ?_
          rintro e wq ⟨rfl, rfl⟩
          go_wp2_with fail
          refine (pick_lit HV.out HK.out (by decide) _).mono ?_
          rintro e wq ⟨rfl, rfl⟩
          obtain ⟨hb14, hx14⟩ := box1 wr #[.int .i64 i, .int .i64 k, .int .i64 u, .int .i64 v] 32
          have HB14 := Lib.hid hb14
          have HX14 := Lib.hid hx14
          clear hb14 hx14 k11
          go_upto_region 15 with (fail)
          generalize hWW : wr.alloc (.cells #[.int .i64 i, .int .i64 k, .int .i64 u, .int .i64 v] 32) = W14 at HB14 HX14 ⊢
          clear hWW
          generalize wr.heap.size = g14 at HX14 ⊢
          have HP4 := Lib.hid (pairs4 i k u v)
          generalize hcs : (#[.int .i64 i, .int .i64 k, .int .i64 u, .int .i64 v] : Array Value) = cs3 at HP4 HX14
          clear hcs
          have HZ14 := Lib.hid (IAt.bel HZ.out HB14.out)
          have HY14 := Lib.hid (LAt.bel HY11.out (HBR.out.trans HB14.out))
          have HB14 := Lib.hid (HBR.out.trans HB14.out)
          clear HZ HBR
          go_loopw [75] (fun v wr => ∃ e : Nat, e ≤ 2 ∧ v = .int .i64 e ∧ Hid (Bel W14 wr)) (fun v _ => 2 - (intOf v).toNat)
          case atStart => exact ⟨0, Nat.zero_le _, rfl, Lib.hid (Bel.refl _)⟩
          case round =>
            obtain ⟨e, he, rfl, HBR⟩ := hrel
            by_cases hlte : e < 2
            · obtain ⟨f, t, h1, h2⟩ := HP4.out e hlte
              have k14 := (cell_of_heap (HBR.out.stays HX14.out) (e * 2)).trans h1
              have k15 := (cell_of_heap (HBR.out.stays HX14.out) (e * 2 + 1)).trans h2
              have hlte2 : (e : Int) < 2 := by omega
              obtain ⟨hb16, hx16⟩ := box1 wr #[.int .i64 f, .int .i64 t] 32
              have HB16 := Lib.hid hb16
              have HX16 := Lib.hid hx16
              clear h1 h2 hb16 hx16
              go_upto_region 17 with (fail)
              generalize hWW : wr.alloc (.cells #[.int .i64 f, .int .i64 t] 32) = W16 at HB16 HX16 ⊢
              clear hWW k14 k15
              generalize wr.heap.size = g16 at HX16 ⊢
              have HZ16 := Lib.hid (IAt.bel HZ14.out (HBR.out.trans HB16.out))
              have HY16 := Lib.hid (LAt.bel HY14.out (HBR.out.trans HB16.out))
              have HB16 := Lib.hid (HBR.out.trans HB16.out)
              clear HBR
              have k16 := cell_of_heap HX16.out 0
              have k17 := cell_of_heap HX16.out 1
              simp only [List.getElem?_toArray, List.getElem?_cons_zero, List.getElem?_cons_succ] at k16 k17
              obtain ⟨⟨va, vt⟩, hva⟩ : ∃ v, valueV y z f = v := ⟨_, rfl⟩
              obtain ⟨ks, hks⟩ : ∃ v, keepsV y f t = v := ⟨_, rfl⟩
              have HVA := Lib.hid hva
              have HKS := Lib.hid hks
              have e0 := ext20
              have e1 := ext21
              clear hva hks
              go_wp2_with fail
              refine (valueV_lit HY16.out HNY.out HNCY.out HN5.out HZ16.out HNZ.out HNCZ.out HM5.out HVA.out).mono ?_
              rintro e5 w17 ⟨rfl, hbz⟩
              have HB17 := Lib.hid hbz
              clear k16 k17 hbz
              have k16 := cell_of_heap (HB17.out.stays HX16.out) 0
              have k17 := cell_of_heap (HB17.out.stays HX16.out) 1
              simp only [List.getElem?_toArray, List.getElem?_cons_zero, List.getElem?_cons_succ] at k16 k17
              go_wp2_with fail
              refine (rvalueV_lit (LAt.bel HY16.out HB17.out) HNY.out HN5.out (IAt.bel HZ16.out HB17.out) HNZ.out HM5.out HVA.out).mono ?_
              rintro e5 w18 ⟨rfl, hbz⟩
              have HB18 := Lib.hid (HB17.out.trans hbz)
              clear k16 k17 hbz HB17
              have HX18 := Lib.hid (HB18.out.stays HX16.out)
              have HY18 := Lib.hid (LAt.bel HY16.out HB18.out)
              have hva : (va != va) = false := by simp
              have hvt : (vt != vt) = false := by simp
              have hks : (ks != ks) = false := by simp
              have HKEEP : Hid (∀ w', Bel w18 w' → w'.cell? ⟨g16, 0, none⟩ = some (.int .i64 f) ∧ w'.cell? ⟨g16, 1, none⟩ = some (.int .i64 t)) := Lib.hid (fun w' h => ⟨cell_of_heap (h.stays HX18.out) 0, cell_of_heap (h.stays HX18.out) 1⟩)
              have HBC : Hid (Bel w18 w18.drew) := Lib.hid (Bel.refl w18).drew
              go_upto_region 19 with (fail)
              refine wp_region_held_drew (S := (fun w' => w'.cell? ⟨g16, 0, none⟩ = some (.int .i64 f) ∧ w'.cell? ⟨g16, 1, none⟩ = some (.int .i64 t))) (by kernel_rfl) (HKEEP.out _ ((Bel.refl w18).drew)) (fun hS0 => ?_)
              refine takeD 95 (i := 0) (v := ?v501) rfl rfl (by kernel_rfl) (by kernel_rfl) (by kernel_rfl) (fun _ _ _ h => h) (by kernel_rfl) ?hy501 hS0 ?rest501
              case hy501 => (intro w0 hSw; obtain ⟨s0, s1⟩ := hSw; first | (go_simp; done) | (go_simp; with_reducible rfl))
              simp only [List.setIfInBounds_toArray, List.set_cons_zero, List.set_cons_succ]
              refine takeD 96 (i := 1) (v := ?v502) rfl rfl (by kernel_rfl) (by kernel_rfl) (by kernel_rfl) (fun _ _ _ h => h) (by kernel_rfl) ?hy502 hS0 ?rest502
              case hy502 => (intro w0 hSw; obtain ⟨s0, s1⟩ := hSw; first | (go_simp; done) | (go_simp; with_reducible rfl))
              simp only [List.setIfInBounds_toArray, List.set_cons_zero, List.set_cons_succ]
              refine takeD 97 (i := 2) (v := ?v503) rfl rfl (by kernel_rfl) (by kernel_rfl) (by kernel_rfl) (fun _ _ _ h => h) (by kernel_rfl) ?hy503 hS0 ?rest503
              case hy503 => (intro w0 hSw; obtain ⟨s0, s1⟩ := hSw; first | (go_simp; done) | (go_simp; with_reducible rfl))
              simp only [List.setIfInBounds_toArray, List.set_cons_zero, List.set_cons_succ]
              refine takeD 98 (i := 3) (v := ?v504) rfl rfl (by kernel_rfl) (by kernel_rfl) (by kernel_rfl) (fun _ _ _ h => h) (by kernel_rfl) ?hy504 hS0 ?rest504
              case hy504 => (intro w0 hSw; obtain ⟨s0, s1⟩ := hSw; first | (go_simp; done) | (go_simp; with_reducible rfl))
              simp only [List.setIfInBounds_toArray, List.set_cons_zero, List.set_cons_succ]
              refine takeD 99 (i := 4) (v := ?v505) rfl rfl (by kernel_rfl) (by kernel_rfl) (by kernel_rfl) (fun _ _ _ h => h) (by kernel_rfl) ?hy505 hS0 ?rest505
              case hy505 => (intro w0 hSw; obtain ⟨s0, s1⟩ := hSw; first | (go_simp; done) | (go_simp; with_reducible rfl))
              simp only [List.setIfInBounds_toArray, List.set_cons_zero, List.set_cons_succ]
              refine takeD 100 (i := 5) (v := ?v506) rfl rfl (by kernel_rfl) (by kernel_rfl) (by kernel_rfl) (fun _ _ _ h => h) (by kernel_rfl) ?hy506 hS0 ?rest506
              case hy506 => (intro w0 hSw; obtain ⟨s0, s1⟩ := hSw; first | (go_simp; done) | (go_simp; with_reducible rfl))
              simp only [List.setIfInBounds_toArray, List.set_cons_zero, List.set_cons_succ]
              refine takeD 101 (i := 6) (v := ?v507) rfl rfl (by kernel_rfl) (by kernel_rfl) (by kernel_rfl) (fun _ _ _ h => h) (by kernel_rfl) ?hy507 hS0 ?rest507
              case hy507 => (intro w0 hSw; obtain ⟨s0, s1⟩ := hSw; first | (go_simp; done) | (go_simp; with_reducible rfl))
              simp only [List.setIfInBounds_toArray, List.set_cons_zero, List.set_cons_succ]
              refine takeD 102 (i := 7) (v := ?v508) rfl rfl (by kernel_rfl) (by kernel_rfl) (by kernel_rfl) (fun _ _ _ h => h) (by kernel_rfl) ?hy508 hS0 ?rest508
              case hy508 => (intro w0 hSw; obtain ⟨s0, s1⟩ := hSw; first | (go_simp; done) | (go_simp; with_reducible rfl))
              simp only [List.setIfInBounds_toArray, List.set_cons_zero, List.set_cons_succ]
              refine takeD 103 (i := 8) (v := ?v509) rfl rfl (by kernel_rfl) (by kernel_rfl) (by kernel_rfl) (fun _ _ _ h => h) (by kernel_rfl) ?hy509 hS0 ?rest509
              case hy509 => (intro w0 hSw; obtain ⟨s0, s1⟩ := hSw; first | (go_simp; done) | (go_simp; with_reducible rfl))
              simp only [List.setIfInBounds_toArray, List.set_cons_zero, List.set_cons_succ]
              refine takeD 104 (i := 9) (v := ?v510) rfl rfl (by kernel_rfl) (by kernel_rfl) (by kernel_rfl) (fun _ _ _ h => h) (by kernel_rfl) ?hy510 hS0 ?rest510
              case hy510 => (intro w0 hSw; obtain ⟨s0, s1⟩ := hSw; first | (go_simp; done) | (go_simp; with_reducible rfl))
              simp only [List.setIfInBounds_toArray, List.set_cons_zero, List.set_cons_succ]
              refine takeD 105 (i := 10) (v := ?v511) rfl rfl (by kernel_rfl) (by kernel_rfl) (by kernel_rfl) (fun _ _ _ h => h) (by kernel_rfl) ?hy511 hS0 ?rest511
              case hy511 => (intro w0 hSw; obtain ⟨s0, s1⟩ := hSw; first | (go_simp; done) | (go_simp; with_reducible rfl))
              simp only [List.setIfInBounds_toArray, List.set_cons_zero, List.set_cons_succ]
              refine takeD 106 (i := 11) (v := ?v512) rfl rfl (by kernel_rfl) (by kernel_rfl) (by kernel_rfl) (fun _ _ _ h => h) (by kernel_rfl) ?hy512 hS0 ?rest512
              case hy512 => (intro w0 hSw; obtain ⟨s0, s1⟩ := hSw; first | (go_simp; done) | (go_simp; with_reducible rfl))
              simp only [List.setIfInBounds_toArray, List.set_cons_zero, List.set_cons_succ]
              refine takeD 107 (i := 12) (v := ?v513) rfl rfl (by kernel_rfl) (by kernel_rfl) (by kernel_rfl) (fun _ _ _ h => h) (by kernel_rfl) ?hy513 hS0 ?rest513
              case hy513 => (intro w0 hSw; obtain ⟨s0, s1⟩ := hSw; first | (go_simp; done) | (go_simp; with_reducible rfl))
              simp only [List.setIfInBounds_toArray, List.set_cons_zero, List.set_cons_succ]
              refine takeD 108 (i := 13) (v := ?v514) rfl rfl (by kernel_rfl) (by kernel_rfl) (by kernel_rfl) (fun _ _ _ h => h) (by kernel_rfl) ?hy514 hS0 ?rest514
              case hy514 => (intro w0 hSw; obtain ⟨s0, s1⟩ := hSw; first | (go_simp; done) | (go_simp; with_reducible rfl))
              simp only [List.setIfInBounds_toArray, List.set_cons_zero, List.set_cons_succ]
              refine takeD 110 (i := 15) (v := ?v515) rfl rfl (by kernel_rfl) (by kernel_rfl) (by kernel_rfl) (fun _ _ _ h => h) (by kernel_rfl) ?hy515 hS0 ?rest515
              case hy515 => (intro w0 hSw; obtain ⟨s0, s1⟩ := hSw; first | (go_simp; done) | (go_simp; with_reducible rfl))
              simp only [List.setIfInBounds_toArray, List.set_cons_zero, List.set_cons_succ]
              refine takeD 111 (i := 16) (v := ?v516) rfl rfl (by kernel_rfl) (by kernel_rfl) (by kernel_rfl) (fun _ _ _ h => h) (by kernel_rfl) ?hy516 hS0 ?rest516
              case hy516 => (intro w0 hSw; obtain ⟨s0, s1⟩ := hSw; first | (go_simp; done) | (go_simp; with_reducible rfl))
              simp only [List.setIfInBounds_toArray, List.set_cons_zero, List.set_cons_succ]
              refine takeD 112 (i := 17) (v := ?v517) rfl rfl (by kernel_rfl) (by kernel_rfl) (by kernel_rfl) (fun _ _ _ h => h) (by kernel_rfl) ?hy517 hS0 ?rest517
              case hy517 => (intro w0 hSw; obtain ⟨s0, s1⟩ := hSw; first | (go_simp; done) | (go_simp; with_reducible rfl))
              simp only [List.setIfInBounds_toArray, List.set_cons_zero, List.set_cons_succ]
              refine takeD 113 (i := 18) (v := ?v518) rfl rfl (by kernel_rfl) (by kernel_rfl) (by kernel_rfl) (fun _ _ _ h => h) (by kernel_rfl) ?hy518 hS0 ?rest518
              case hy518 => (intro w0 hSw; obtain ⟨s0, s1⟩ := hSw; first | (go_simp; done) | (go_simp; with_reducible rfl))
              simp only [List.setIfInBounds_toArray, List.set_cons_zero, List.set_cons_succ]
              refine takeD 114 (i := 19) (v := ?v519) rfl rfl (by kernel_rfl) (by kernel_rfl) (by kernel_rfl) (fun _ _ _ h => h) (by kernel_rfl) ?hy519 hS0 ?rest519
              case hy519 => (intro w0 hSw; obtain ⟨s0, s1⟩ := hSw; first | (go_simp; done) | (go_simp; with_reducible rfl))
              simp only [List.setIfInBounds_toArray, List.set_cons_zero, List.set_cons_succ]
              refine onlyD 109 (i := 14) rfl rfl (by kernel_rfl) (by kernel_rfl) (fun K hK => ?_)
              go_simp
              go_at_call 17
              refine (keepsV_lit (LAt.bel HY18.out ((Bel.refl w18).drew)) HNY.out HNCY.out HN5.out HKS.out).mono ?_
              rintro e whb11 ⟨rfl, hb11⟩
              have hS1 := HKEEP.out _ (((Bel.refl w18).drew).trans hb11)
              refine hK.out _ _ hS1 (fun _ => ?_)
              clear hK K
              simp only [List.setIfInBounds_toArray, List.set_cons_zero, List.set_cons_succ]
              refine onlyD 115 (i := 20) rfl rfl (by kernel_rfl) (by kernel_rfl) (fun K hK => ?_)
              go_simp
              go_at_call 18
              refine (rkeeps_lit (LAt.bel HY18.out (((Bel.refl w18).drew).trans hb11)) HNY.out HN5.out HKS.out).mono ?_
              rintro e whb12 ⟨rfl, hb12⟩
              have hS2 := HKEEP.out _ ((((Bel.refl w18).drew).trans hb11).trans hb12)
              refine hK.out _ _ hS2 (fun _ => ?_)
              clear hK K
              simp only [List.setIfInBounds_toArray, List.set_cons_zero, List.set_cons_succ]
              refine takeD 116 (i := 21) (v := ?v520) rfl rfl (by kernel_rfl) (by kernel_rfl) (by kernel_rfl) (fun _ _ _ h => h) (by kernel_rfl) ?hy520 hS2 ?rest520
              case hy520 => (intro w0 hSw; obtain ⟨s0, s1⟩ := hSw; first | (go_simp; done) | (go_simp; with_reducible rfl))
              simp only [List.setIfInBounds_toArray, List.set_cons_zero, List.set_cons_succ]
              refine takeD 117 (i := 22) (v := ?v521) rfl rfl (by kernel_rfl) (by kernel_rfl) (by kernel_rfl) (fun _ _ _ h => h) (by kernel_rfl) ?hy521 hS2 ?rest521
              case hy521 => (intro w0 hSw; obtain ⟨s0, s1⟩ := hSw; first | (go_simp; done) | (go_simp; with_reducible rfl))
              simp only [List.setIfInBounds_toArray, List.set_cons_zero, List.set_cons_succ]
              refine wpAnyH_done (by kernel_rfl) ?_ _
              have HBC := Lib.hid ((((Bel.refl w18).drew).trans hb11).trans hb12)
              clear hb11 hb12 hS0 hS1 hS2
              go_wp2
              exact ⟨⟨e + 1, by omega, by go_num, Lib.hid (HB16.out.trans (HB18.out.trans HBC.out))⟩, by simp [intOf]; omega⟩
            · obtain rfl : e = 2 := by omega
              obtain ⟨ks, hks⟩ : ∃ v, holdsB y z = v := ⟨_, rfl⟩
              have HKS := Lib.hid hks
              have hks2 : (ks != ks) = false := by simp
              clear hks
              go_wp2_with fail
              refine (holds_lit (LAt.bel HY14.out HBR.out) HNY.out HNCY.out HN5.out (IAt.bel HZ14.out HBR.out) HNZ.out HNCZ.out HM5.out HKS.out).mono ?_
              rintro e5 w22 ⟨rfl, hbz⟩
              have HB22 := Lib.hid (HBR.out.trans hbz)
              clear hbz
              go_wp2_with fail
              refine (rholds_lit (LAt.bel HY14.out HB22.out) HNY.out HN5.out (IAt.bel HZ14.out HB22.out) HNZ.out HM5.out HKS.out).mono ?_
              rintro e5 w23 ⟨rfl, hbz⟩
              have HB23 := Lib.hid (HB22.out.trans hbz)
              clear hbz
              go_wp2
              exact ⟨⟨b + 1, by omega, by go_num, Lib.hid (HB14.out.trans HB23.out)⟩, by simp [intOf]; omega⟩
        · obtain rfl : b = 2 := by omega
          obtain ⟨ks, hks⟩ : ∃ v, right y = v := ⟨_, rfl⟩
          have HKS := Lib.hid hks
          have hks2 : (ks != ks) = false := by simp
          clear hks
          go_wp2_with fail
          refine (right_lit (LAt.bel HY11.out HBR.out) HNY.out HN5.out HKS.out).mono ?_
          rintro e5 w25 ⟨rfl, hbz⟩
          have HB25 := Lib.hid (HBR.out.trans hbz)
          clear hbz
          go_wp2_with fail
          refine (rright_lit (LAt.bel HY11.out HB25.out) HNY.out HN5.out HKS.out).mono ?_
          rintro e5 w26 ⟨rfl, hbz⟩
          have HB26 := Lib.hid (HB25.out.trans hbz)
          clear hbz
          by_cases h7 : na < 7
          · have h72 : (na : Int) < 7 := by omega
            obtain ⟨al, hal⟩ : ∃ v, allowed y = v := ⟨_, rfl⟩
            have HAL := Lib.hid hal
            have hal2 : (al != al) = false := by simp
            clear hal
            go_wp2_with fail
            refine (allowed_lit (LAt.bel HY11.out HB26.out) HNY.out HNCY.out HN5.out HAL.out).mono ?_
            rintro e5 w27 ⟨rfl, hbz⟩
            have HB27 := Lib.hid (HB26.out.trans hbz)
            clear hbz
            go_wp2_with fail
            refine (rallowed_lit (LAt.bel HY11.out HB27.out) HNY.out HN5.out HAL.out).mono ?_
            rintro e5 w28 ⟨rfl, hbz⟩
            have HB28 := Lib.hid (HB27.out.trans hbz)
            clear hbz
            go_wp2
            exact ⟨⟨a + 1, by omega, by go_num, Lib.hid (HB11.out.trans HB28.out)⟩, by simp [intOf]; omega⟩
          · have h72 : ¬ (na : Int) < 7 := by omega
            go_wp2
            exact ⟨⟨a + 1, by omega, by go_num, Lib.hid (HB11.out.trans HB26.out)⟩, by simp [intOf]; omega⟩
    · obtain rfl : a = 3 := by omega
      go_wp2
      go_ret
      exact ⟨rfl, HB8.out.trans HBR.out⟩
end Go.Proofs.Ytigefdoejcggpaa
