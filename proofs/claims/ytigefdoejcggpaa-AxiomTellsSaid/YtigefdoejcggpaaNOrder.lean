/- Order: of raw numbers, an order of events' accesses. -/
import Derived.Test.YtigefdoejcggpaaNSet
namespace Go.Proofs.Ytigefdoejcggpaa
open Go.RowKit Ax
set_option linter.unusedVariables false
set_option linter.unusedSimpArgs false
def accs (l : List Ev) (j : Nat) : List Int := ((List.range j).map Int.ofNat).filter (fun i => decide ((ev l i).2.1 ≠ 3))
theorem accs_yes {l : List Ev} {j : Nat} (h : (ev l j).2.1 ≠ 3) : accs l (j + 1) = accs l j ++ [(j : Int)] := by
  unfold accs
  rw [List.range_succ, List.map_append, List.filter_append]
  congr 1
  show List.filter _ [(j : Int)] = _
  rw [List.filter_cons_of_pos (by simpa using h)]
  rfl
theorem accs_no {l : List Ev} {j : Nat} (h : (ev l j).2.1 = 3) : accs l (j + 1) = accs l j := by
  unfold accs
  rw [List.range_succ, List.map_append, List.filter_append]
  show _ ++ List.filter _ [(j : Int)] = _
  rw [List.filter_cons_of_neg (by simpa using h)]
  simp
theorem accs_len (l : List Ev) (j : Nat) : (accs l j).length ≤ j := by
  unfold accs
  have := List.length_filter_le (fun i : Int => decide ((ev l i).2.1 ≠ 3)) ((List.range j).map Int.ofNat)
  rwa [List.length_map, List.length_range] at this
def kOf (left picks : List Int) : Nat := match picks with
  | [] => 0
  | c :: _ => (pick c left.length).toNat
def ordGo : Nat → List Int → List Int → List Int
  | 0, _, _ => []
  | f + 1, left, picks => if left = [] then [] else left.getD (kOf left picks) 0 :: ordGo f (left.eraseIdx (kOf left picks)) picks.tail
def ordV (l : List Ev) (picks : List Int) : List Int := ordGo (accs l l.length).length (accs l l.length) picks
theorem kOf_lt {left picks : List Int} (h : left ≠ []) : kOf left picks < left.length := by
  have hp := List.length_pos_iff.2 h
  unfold kOf
  split
  · exact hp
  · rename_i c _
    have := pick_bd c (n := (left.length : Int)) (by omega)
    omega
theorem ordGo_nil (left : List Int) : ordGo left.length left [] = left := by
  induction left with
  | nil => rfl
  | cons a l ih =>
    show (if a :: l = [] then [] else (a :: l).getD 0 0 :: ordGo l.length ((a :: l).eraseIdx 0) [].tail) = _
    rw [if_neg (by simp)]
    show a :: ordGo l.length l [] = _
    rw [ih]
/-- a list more, of a row that may be nothing -/
theorem app_any {α : Type} {enc : α → List Value} {k : Nat} {t T : TypeId} {bytes : Nat} (H : RowTy enc k t T bytes) {w : World} {base : Nat} {p : Option Addr} {n c : Nat} {l : List α} (h : ERow enc T k w base (.slice p n c) l) {src : Option Addr} {m c' : Nat} {r : List α} (hr : r.length = m) (hs : EncAt enc k w src r) (hL : l.length + m ≤ 100000) (hb : base ≤ w.heap.size) :
    ∃ p2 c2 w', (Builtin.append_ #[t, t] t #[.slice p n c, .slice src m c']).run Try.prog w = .ok (.slice p2 (n + m) c2) w' ∧ ERow enc T k w' base (.slice p2 (n + m) c2) (l ++ r) ∧ (∀ w0, Bel w0 w → base = w0.heap.size → Bel w0 w') := by
  by_cases hn : 0 < n
  · obtain ⟨p2, c2, w', h1, h2, -, h4⟩ := app_list H h (c' := c') hr hs hL hb hn
    exact ⟨p2, c2, w', h1, h2, h4⟩
  · have hn0 : n = 0 := by omega
    have hnl : n = l.length := ERow.n (s := ⟨p, n, c⟩) h
    have hl0 : l = [] := List.length_eq_zero_iff.1 (by omega)
    subst hl0
    rcases h.2 with ⟨e, _⟩ | ⟨g, cap, cur, e, hbg, hg, hrest⟩
    · injection e with e1 e2 e3
      subst e1
      subst e2
      subst e3
      obtain ⟨v', w', h1, h2, h3⟩ := clone_new H (c := c') hr hs (by simp at hL; omega)
      obtain ⟨p2, c2, hv, -, -⟩ := ERow.form H.len h2
      rw [hr] at hv
      subst hv
      refine ⟨p2, c2, w', by rw [h1, Nat.zero_add], by rw [List.nil_append, Nat.zero_add]; exact h2.mono hb, fun w0 h0 he => h0.trans h3⟩
    · injection e with e1 e2 e3
      subst e1
      have hne : Value.slice (some ⟨g, 0, none⟩) n c ≠ .slice none 0 0 := fun e => by injection e with e _ _; cases e
      by_cases h0 : r = []
      · subst h0
        have hm : m = 0 := hr.symm
        subst hm
        refine ⟨some ⟨g, 0, none⟩, c, w, ?_, h, fun w0 h0 _ => h0⟩
        obtain ⟨i, z, hi, hz, hsz, hby, hzs⟩ := H.info
        have ht := H.und
        have hnc : n ≤ c := ERow.c (s := ⟨some ⟨g, 0, none⟩, n, c⟩) h
        cases src <;> simp [Builtin.append_, run_underlying ht, sizeOf, typeInfo, hi, Builtin.lenOf, Builtin.firstCells, loadCells, loadCellsFrom, hnc, storeCells]
      · obtain ⟨x, hx⟩ : ∃ x, r[0]? = some x := ⟨_, List.getElem?_eq_getElem (List.length_pos_iff.2 h0)⟩
        obtain ⟨b, o, rfl, _, _⟩ := hs 0 x hx
        obtain ⟨v', w', hrun, hown, hsv, -, -⟩ := app_more H h (b := b) (o := o) (m := m) (c := c') hr (fun j y hj i v hv => by
          obtain ⟨b', o', hp, _, hc⟩ := hs j y hj
          cases hp
          exact hc i v hv) (.inr hne) hL hb
        obtain ⟨p2, c2, hv, -, -⟩ := ERow.form H.len hown
        have e : ([] ++ r).length = n + m := by rw [List.length_append, hr, hn0]; rfl
        rw [e] at hv
        subst hv
        exact ⟨p2, c2, w', hrun, hown, fun w0 h0 he => Sv.bel hsv h0 fun b hb' => by
          obtain ⟨h3, -⟩ := ERow.blk h hb'
          omega⟩
set_option maxRecDepth 100000 in
set_option maxHeartbeats 4000000 in
theorem order_any {w : World} {p q : Option Addr} {l : List Ev} {ps : List Int} {n c m d : Nat} (hl : LAt w p l) (hn : l.length = n) (hmax : n ≤ 100) (hq : IAt w q ps) (hm : ps.length = m) (hw : ∀ x ∈ ps, inInt x) :
    Calls Try.prog 13 #[.slice p n c, .slice q m d] w fun e w' => ∃ (p' : Option Addr) (n' c' : Nat), e = .returned (.slice p' n' c') ∧ Bel w w' ∧ ERow encI 3 1 w' w.heap.size (.slice p' n' c') (ordV l ps) := by
  have HL := Lib.hid hl
  have HN := Lib.hid hn
  have HQ := Lib.hid hq
  have HM := Lib.hid hm
  have HW := Lib.hid hw
  clear hl hn hq hm hw
  go_enter Try.func13, Try.ntmps13
  go_wp2
  go_loopw [6, 5] (fun i v wr => ∃ (j : Nat) (p3 : Option Addr) (n3 c3 : Nat), j ≤ n ∧ i = .int .i64 j ∧ v = .slice p3 n3 c3 ∧ Hid (Bel w wr) ∧ Hid (ERow encI 3 1 wr w.heap.size (.slice p3 n3 c3) (accs l j))) (fun i _ _ => n - (intOf i).toNat)
  case atStart => exact ⟨0, none, 0, 0, Nat.zero_le _, rfl, rfl, Lib.hid (Bel.refl _), Lib.hid (ERow.nil _ _ _ _ _)⟩
  case round =>
    obtain ⟨j, p3, n3, c3, hj, rfl, rfl, HB, HE⟩ := hrel
    by_cases hlt : j < n
    · obtain ⟨b, o, rfl, hb, hc⟩ := LAt.get (LAt.bel HL.out HB.out) (i0 := j) (by have := HN.out; omega)
      obtain ⟨-, c1, -, -⟩ := hc j (by have := HN.out; omega)
      have HY := Lib.hid (@accs_yes l j)
      have HNO := Lib.hid (@accs_no l j)
      generalize (ev l j).2.1 = x1 at c1 HY HNO
      have hjn : (j : Int) < n := by omega
      clear hc hb
      by_cases h3 : x1 = 3
      · have e3 : (x1 != 3) = false := by simp [h3]
        have HA := Lib.hid (HNO.out h3)
        clear h3
        go_wp2
        exact ⟨⟨j + 1, p3, n3, c3, by omega, by go_num, rfl, HB, Lib.hid (by rw [HA.out]; exact HE.out)⟩, by simp [intOf]; omega⟩
      · have e3 : (x1 != 3) = true := by simp [h3]
        have HA := Lib.hid (HY.out h3)
        clear h3
        obtain ⟨s', w9, hrun, hown, -, hbel, -⟩ := push_one (s := ⟨p3, n3, c3⟩) intTy HE.out (x := (j : Int)) (cs := #[.int .i64 (j : Int)]) rfl (c := 1) (by have := accs_len l j; omega) HB.out.size
        have HRUN := Lib.hid hrun
        have HE9 : Hid (ERow encI 3 1 w9 w.heap.size s'.val (accs l (j + 1))) := Lib.hid (by rw [HA.out]; exact hown)
        have HB9 := Lib.hid (hbel _ HB.out rfl)
        clear hrun hown hbel
        go_wp2_with (at_builtin; refine wpList_app rfl (.tmp 22) (.tmp 24) 23 rfl _ _ _ (by rfl) (by rfl) HRUN.out ?_)
        exact ⟨⟨j + 1, s'.p, s'.n, s'.c, by omega, by go_num, rfl, HB9, HE9⟩, by simp [intOf]; omega⟩
    · obtain rfl : j = n := by omega
      have HO : Hid (ordV l ps = ordGo (accs l j).length (accs l j) ps) := Lib.hid (by unfold ordV; rw [HN.out])
      have HLE : Hid ((accs l j).length ≤ 100) := Lib.hid (by have := accs_len l j; omega)
      generalize accs l j = left0 at HE HO HLE
      have HNL : Hid (n3 = left0.length) := Lib.hid (ERow.n (s := ⟨p3, n3, c3⟩) HE.out)
      have HN3 : Hid (n3 ≤ 100) := Lib.hid (by have := HNL.out; have := HLE.out; omega)
      have HB1 := HB
      clear hj hlt
      go_wp2
      go_loopw [5, 7, 8] (fun lv ov nv ws => ∃ (left done : List Int) (k : Nat) (p4 p5 : Option Addr) (n4 c4 n5 c5 B : Nat), lv = .slice p4 n4 c4 ∧ ov = .slice p5 n5 c5 ∧ nv = .int .i64 k ∧ n4 ≤ 100 ∧ k + n4 ≤ 200 ∧ Hid (n4 = left.length) ∧ Hid (Bel w ws) ∧ Hid (ERow encI 3 1 ws B (.slice p4 n4 c4) left) ∧ Hid (ERow encI 3 1 ws w.heap.size (.slice p5 n5 c5) done) ∧ Hid (w.heap.size ≤ B ∧ ∀ b, (Value.slice p5 n5 c5).ownBlock = some b → b < B) ∧ Hid (done.length + n4 ≤ 100) ∧ Hid (done ++ ordGo left.length left (ps.drop k) = ordV l ps)) (fun lv _ _ _ => match lv with | .slice _ n _ => n | _ => 0)
      case atStart => exact ⟨left0, [], 0, p3, none, n3, c3, 0, 0, w.heap.size, rfl, rfl, rfl, HN3.out, by have := HN3.out; omega, HNL, HB1, HE, Lib.hid (ERow.nil _ _ _ _ _), Lib.hid ⟨Nat.le_refl _, fun b hb => by cases hb⟩, Lib.hid (by have := HN3.out; simp; omega), Lib.hid (by rw [HO.out]; rfl)⟩
      case round =>
        obtain ⟨left, done, k, p4, p5, n4, c4, n5, c5, B, rfl, rfl, rfl, h100, hk2, HNL, HBW, HLE, HDO, HBB, HDL, HGO⟩ := hrel
        by_cases h0 : n4 = 0
        · have h0' : ((n4 : Int) > 0) = False := eq_false (by omega)
          have h0'' : ¬ (0 : Int) < n4 := by omega
          have HDE : Hid (done = ordV l ps) := Lib.hid (by
            have h := HGO.out
            rw [show left = [] from List.length_eq_zero_iff.1 (by have := HNL.out; omega)] at h
            simpa [ordGo] using h)
          go_wp2
          go_ret
          exact ⟨p5, n5, c5, rfl, HBW.out, by rw [← HDE.out]; exact HDO.out⟩
        · have h0'' : (0 : Int) < n4 := by omega
          have hne : left ≠ [] := fun c => h0 (by rw [HNL.out, c]; rfl)
          have HK := Lib.hid (kOf_lt (picks := ps.drop k) hne)
          have HGO2 : Hid (done ++ (left.getD (kOf left (ps.drop k)) 0 :: ordGo (left.length - 1) (left.eraseIdx (kOf left (ps.drop k))) (ps.drop (k + 1))) = ordV l ps) := Lib.hid (by
            have h := HGO.out
            rw [show left.length = (left.length - 1) + 1 by have := List.length_pos_iff.2 hne; omega] at h
            unfold ordGo at h
            rw [if_neg hne, List.tail_drop] at h
            exact h)
          have HKE : Hid (∀ c, ps[k]? = some c → kOf left (ps.drop k) = (pick c left.length).toNat) := Lib.hid (fun c hc => by
            rw [show ps.drop k = c :: ps.drop (k + 1) from drop_get hc]
            rfl)
          have HKZ : Hid (m ≤ k → kOf left (ps.drop k) = 0) := Lib.hid (fun h => by
            rw [List.drop_of_length_le (by have := HM.out; omega)]
            rfl)
          generalize kOf left (ps.drop k) = kk at HK HGO2 HKE HKZ
          clear hne HGO
          obtain ⟨g, cs, ep, hbg, hg, -, -, -, -, hcell⟩ := ERow.at (s := ⟨p4, n4, c4⟩) encI_len HLE.out (get_of HK.out)
          have ep : p4 = some ⟨g, 0, none⟩ := ep
          subst ep
          have l0 := hcell 0 _ rfl
          rw [Nat.mul_one, Nat.add_zero] at l0
          have HGX := Lib.hid (get_of HK.out)
          generalize left.getD kk 0 = x at l0 HGO2 HGX
          have hkn : (kk : Int) < n4 := by have := HK.out; have := HNL.out; omega
          have hkn' : kk < n4 := by have := HK.out; have := HNL.out; omega
          have HC4 : Hid (n4 ≤ c4) := Lib.hid (ERow.c (s := ⟨some ⟨g, 0, none⟩, n4, c4⟩) HLE.out)
          have hkc : (kk : Int) ≤ c4 := by have := HC4.out; omega
          obtain ⟨k1, hk1⟩ : ∃ k1 : Nat, k1 = kk + 1 := ⟨_, rfl⟩
          have HK1 := Lib.hid hk1
          have hkc1 : (k1 : Int) ≤ c4 := by have := HC4.out; omega
          have hkn1 : (k1 : Int) ≤ n4 := by omega
          have hwk : IntKind.i64.wrap ((kk : Int) + 1) = (k1 : Int) := by rw [IntWalk.i64_in _ (by omega)]; omega
          obtain ⟨s', w9, hrun, hown, hsv, hbel, hob⟩ := push_one (s := ⟨p5, n5, c5⟩) intTy HDO.out (x := x) (cs := #[.int .i64 x]) rfl (c := 1) (by have := HDL.out; omega) HBW.out.size
          have HRUN := Lib.hid hrun
          have HD9 := Lib.hid hown
          have HB9 := Lib.hid (hbel _ HBW.out rfl)
          have HL9 : Hid (ERow encI 3 1 w9 B (.slice (some ⟨g, 0, none⟩) n4 c4) left) := Lib.hid (ERow.sv (HLE.out.bel ((Bel.refl wr).alloc _ _)) hsv (fun b hb c => by
            have h1 := HBB.out.2 b c
            have h2 := (ERow.blk HLE.out hb).1
            omega))
          have HOB : Hid (∀ b, s'.val.ownBlock = some b → b < w9.heap.size) := Lib.hid (fun b hb => (Array.getElem?_eq_some_iff.1 (ERow.blk hown hb).2.choose_spec).1)
          have HLA : Hid (IAt w9 (some ⟨g, 0, none⟩) left) := Lib.hid (ERow.iat (s := ⟨some ⟨g, 0, none⟩, n4, c4⟩) HL9.out)
          -- the two appends behind
          have HT1 : Hid ((left.take kk).length = kk) := Lib.hid (by rw [List.length_take]; have := HK.out; omega)
          have HT2 : Hid ((left.drop (k1)).length = n4 - (k1)) := Lib.hid (by rw [List.length_drop, HNL.out])
          obtain ⟨v3, w3, hr3, ho3, hb3⟩ := clone_new intTy (w := w9.drew) (src := some ⟨g, 0, none⟩) (m := kk) (c := c4) HT1.out (EncAt.take (EncAt.bel HLA.out (Bel.refl w9).drew) _) (by omega)
          obtain ⟨p6, c6, e6, -, -⟩ := ERow.form encI_len ho3
          rw [HT1.out] at e6
          subst e6
          have HSK : Hid (EncAt encI 1 w9 (if c4 = k1 then some ⟨g, 0, none⟩ else some ⟨g, k1, none⟩) (left.drop (k1))) := Lib.hid (by
            by_cases hck : c4 = k1
            · rw [if_pos hck, List.drop_of_length_le (by have := HNL.out; have := HC4.out; omega)]
              exact EncAt.nil _ _ _ _
            · rw [if_neg hck]
              have := EncAt.sub HLA.out (k1) left.length
              rw [List.take_length, Nat.zero_add, Nat.mul_one] at this
              exact this)
          obtain ⟨p8, c8, w8, hr8, ho8, hl8⟩ := app_any intTy ho3 (src := if c4 = k1 then some ⟨g, 0, none⟩ else some ⟨g, k1, none⟩) (m := n4 - (k1)) (c' := c4 - (k1)) HT2.out (EncAt.bel HSK.out ((Bel.refl w9).drew.trans hb3)) (by rw [HT1.out]; omega) hb3.size
          have HR3 := Lib.hid hr3
          have HR8 := Lib.hid hr8
          have HB8 : Hid (Bel w9 w8) := Lib.hid (hl8 _ ((Bel.refl w9).drew.trans hb3) rfl)
          have HN8 : Hid (kk + (n4 - (k1)) = n4 - 1) := Lib.hid (by omega)
          have HE8 : Hid (left.take kk ++ left.drop (k1) = left.eraseIdx kk) := Lib.hid (by rw [hk1]; exact (List.eraseIdx_eq_take_drop_succ left kk).symm)
          have HO8 : Hid (ERow encI 3 1 w8 w9.heap.size (.slice p8 (kk + (n4 - (k1))) c8) (left.eraseIdx kk)) := Lib.hid (by rw [← HE8.out]; exact ho8)
          have HLN : Hid ((left.eraseIdx kk).length = n4 - 1) := Lib.hid (by rw [List.length_eraseIdx_of_lt HK.out, HNL.out])
          have HFIN : Hid ((done ++ [x]) ++ ordGo (left.eraseIdx kk).length (left.eraseIdx kk) (ps.drop (k + 1)) = ordV l ps) := Lib.hid (by
            rw [← HGO2.out, List.append_assoc, List.length_eraseIdx_of_lt HK.out]
            rfl)
          clear hr3 hr8 ho3 ho8 hb3 hl8 hrun hown hsv hbel hob hbg hg hcell
          clear hk1
          by_cases hkm : k < m
          · obtain ⟨bq, oq, rfl, hbq, hcq⟩ := IAt.get (EncAt.bel HQ.out HBW.out) (i0 := k) (by have := HM.out; omega)
            have q0 := hcq k (by have := HM.out; omega)
            have HPK : Hid (ps[k]? = some (ps.getD k 0)) := Lib.hid (get_of (by have := HM.out; omega))
            have HPI := Lib.hid (HW.out _ (List.mem_of_getElem? HPK.out))
            have HKV := Lib.hid (HKE.out _ HPK.out)
            generalize ps.getD k 0 = pc at q0 HPI HKV
            have hpb := pick_bd pc (n := (n4 : Int)) (by omega)
            have HPV : Hid (pick pc (n4 : Int) = (kk : Int)) := Lib.hid (by rw [HKV.out, ← HNL.out]; omega)
            have hkm' : (k : Int) < m := by omega
            have h1n : (1 : Int) ≤ n4 := by omega
            clear hcq hbq hpb
            go_upto_region 15 with (first | (go_at_call 14; ((with_reducible refine (pick_lit HPV.out HPI.out h1n _).mono ?_); rintro e wq ⟨rfl, rfl⟩)) | (at_builtin; refine wpList_app rfl (.tmp 42) (.tmp 47) 23 rfl _ _ _ (by rfl) (by rfl) HRUN.out ?_))
            refine wp_region_held_drew (S := fun _ => True) (by kernel_rfl) trivial (fun _ => ?_)
            refine takeD 49 (i := 0) (v := ?v1) rfl rfl (by kernel_rfl) (by kernel_rfl) (by kernel_rfl) (fun _ _ _ h => h) (by kernel_rfl) ?hy1 trivial ?rest1
            case hy1 => (intro w0 hSw; first | (go_simp; done) | (go_simp; with_reducible rfl))
            try simp only [List.setIfInBounds_toArray, List.set_cons_zero, List.set_cons_succ]
            refine takeD 50 (i := 1) (v := ?v2) rfl rfl (by kernel_rfl) (by kernel_rfl) (by kernel_rfl) (fun _ _ _ h => h) (by kernel_rfl) ?hy2 trivial ?rest2
            case hy2 => (intro w0 hSw; first | (go_simp; done) | (go_simp; with_reducible rfl))
            try simp only [List.setIfInBounds_toArray, List.set_cons_zero, List.set_cons_succ]
            refine takeD 51 (i := 2) (v := ?v3) rfl rfl (by kernel_rfl) (by kernel_rfl) (by kernel_rfl) (fun _ _ _ h => h) (by kernel_rfl) ?hy3 trivial ?rest3
            case hy3 => (intro w0 hSw; first | (go_simp; done) | (go_simp; with_reducible rfl))
            try simp only [List.setIfInBounds_toArray, List.set_cons_zero, List.set_cons_succ]
            refine takeD 53 (i := 4) (v := ?v4) rfl rfl (by kernel_rfl) (by kernel_rfl) (by kernel_rfl) (fun _ _ _ h => h) (by kernel_rfl) ?hy4 trivial ?rest4
            case hy4 => (intro w0 hSw; first | (go_simp; done) | (go_simp; with_reducible rfl))
            try simp only [List.setIfInBounds_toArray, List.set_cons_zero, List.set_cons_succ]
            refine takeD 54 (i := 5) (v := ?v5) rfl rfl (by kernel_rfl) (by kernel_rfl) (by kernel_rfl) (fun _ _ _ h => h) (by kernel_rfl) ?hy5 trivial ?rest5
            case hy5 => (intro w0 hSw; first | (go_simp; done) | (go_simp; with_reducible rfl))
            try simp only [List.setIfInBounds_toArray, List.set_cons_zero, List.set_cons_succ]
            refine takeD 55 (i := 6) (v := ?v6) rfl rfl (by kernel_rfl) (by kernel_rfl) (by kernel_rfl) (fun _ _ _ h => h) (by kernel_rfl) ?hy6 trivial ?rest6
            case hy6 => (intro w0 hSw; first | (go_simp; done) | (go_simp; with_reducible rfl))
            try simp only [List.setIfInBounds_toArray, List.set_cons_zero, List.set_cons_succ]
            refine takeD 56 (i := 7) (v := ?v7) rfl rfl (by kernel_rfl) (by kernel_rfl) (by kernel_rfl) (fun _ _ _ h => h) (by kernel_rfl) ?hy7 trivial ?rest7
            case hy7 => (intro w0 hSw; first | (go_simp; done) | (go_simp; with_reducible rfl))
            try simp only [List.setIfInBounds_toArray, List.set_cons_zero, List.set_cons_succ]
            refine onlyE 52 (i := 3) rfl rfl (by kernel_rfl) (by kernel_rfl) (fun K hK => ?_)
            try simp only [List.setIfInBounds_toArray, List.set_cons_zero, List.set_cons_succ] at hK
            refine appE (.const (.slice none 0 0)) (.tmp 51) 23 rfl _ _ _ (by rfl) (by rfl) HR3.out ?_
            try simp only [List.setIfInBounds_toArray, List.set_cons_zero, List.set_cons_succ]
            refine hK _ _ trivial (fun _ => ?_)
            clear hK K
            refine onlyE 57 (i := 8) rfl rfl (by kernel_rfl) (by kernel_rfl) (fun K hK => ?_)
            try simp only [List.setIfInBounds_toArray, List.set_cons_zero, List.set_cons_succ] at hK
            refine appE (.tmp 52) (.tmp 56) 23 rfl _ _ _ (by rfl) (by rfl) HR8.out ?_
            try simp only [List.setIfInBounds_toArray, List.set_cons_zero, List.set_cons_succ]
            refine hK _ _ trivial (fun _ => ?_)
            clear hK K
            refine takeD 5 (i := 9) (v := ?v8) rfl rfl (by kernel_rfl) (by kernel_rfl) (by kernel_rfl) (fun _ _ _ h => h) (by kernel_rfl) ?hy8 trivial ?rest8
            case hy8 => (intro w0 hSw; first | (go_simp; done) | (go_simp; with_reducible rfl))
            try simp only [List.setIfInBounds_toArray, List.set_cons_zero, List.set_cons_succ]
            refine wpAnyH_done (by kernel_rfl) ?_ _
            generalize (if c4 = k1 then (some ⟨g, 0, none⟩ : Option Addr) else some ⟨g, k1, none⟩) = srcX
            clear hkn hkn' hkc hkc1 hkn1 hwk l0
            go_wp2
            exact ⟨⟨left.eraseIdx kk, done ++ [x], k + 1, p8, s'.p, kk + (n4 - k1), c8, s'.n, s'.c, w9.heap.size, rfl, rfl, by go_num, by have := HN8.out; omega, by have := HN8.out; omega, Lib.hid (by rw [HN8.out, HLN.out]), Lib.hid (HB9.out.trans HB8.out), HO8, Lib.hid (HD9.out.bel HB8.out), Lib.hid ⟨HB9.out.size, HOB.out⟩, Lib.hid (by rw [List.length_append, HN8.out]; have := HDL.out; simp; omega), HFIN⟩, by show kk + (n4 - k1) < n4; have := HN8.out; omega⟩
          · have hkm' : ¬ (k : Int) < m := by omega
            obtain rfl : kk = 0 := HKZ.out (by omega)
            obtain rfl : k1 = 1 := HK1.out
            have hw1 : IntKind.i64.wrap 1 = 1 := IntWalk.i64_in _ (by omega)
            have h1n : (1 : Int) ≤ n4 := by omega
            have h1c : (1 : Int) ≤ c4 := by omega
            go_upto_region 15 with (at_builtin; refine wpList_app rfl (.tmp 42) (.tmp 47) 23 rfl _ _ _ (by rfl) (by rfl) HRUN.out ?_)
            refine wp_region_held_drew (S := fun _ => True) (by kernel_rfl) trivial (fun _ => ?_)
            refine takeD 49 (i := 0) (v := ?v9) rfl rfl (by kernel_rfl) (by kernel_rfl) (by kernel_rfl) (fun _ _ _ h => h) (by kernel_rfl) ?hy9 trivial ?rest9
            case hy9 => (intro w0 hSw; first | (go_simp; done) | (go_simp; with_reducible rfl))
            try simp only [List.setIfInBounds_toArray, List.set_cons_zero, List.set_cons_succ]
            refine takeD 50 (i := 1) (v := ?v10) rfl rfl (by kernel_rfl) (by kernel_rfl) (by kernel_rfl) (fun _ _ _ h => h) (by kernel_rfl) ?hy10 trivial ?rest10
            case hy10 => (intro w0 hSw; first | (go_simp; done) | (go_simp; with_reducible rfl))
            try simp only [List.setIfInBounds_toArray, List.set_cons_zero, List.set_cons_succ]
            refine takeD 51 (i := 2) (v := ?v11) rfl rfl (by kernel_rfl) (by kernel_rfl) (by kernel_rfl) (fun _ _ _ h => h) (by kernel_rfl) ?hy11 trivial ?rest11
            case hy11 => (intro w0 hSw; first | (go_simp; done) | (go_simp; with_reducible rfl))
            try simp only [List.setIfInBounds_toArray, List.set_cons_zero, List.set_cons_succ]
            refine takeD 53 (i := 4) (v := ?v12) rfl rfl (by kernel_rfl) (by kernel_rfl) (by kernel_rfl) (fun _ _ _ h => h) (by kernel_rfl) ?hy12 trivial ?rest12
            case hy12 => (intro w0 hSw; first | (go_simp; done) | (go_simp; with_reducible rfl))
            try simp only [List.setIfInBounds_toArray, List.set_cons_zero, List.set_cons_succ]
            refine takeD 54 (i := 5) (v := ?v13) rfl rfl (by kernel_rfl) (by kernel_rfl) (by kernel_rfl) (fun _ _ _ h => h) (by kernel_rfl) ?hy13 trivial ?rest13
            case hy13 => (intro w0 hSw; first | (go_simp; done) | (go_simp; with_reducible rfl))
            try simp only [List.setIfInBounds_toArray, List.set_cons_zero, List.set_cons_succ]
            refine takeD 55 (i := 6) (v := ?v14) rfl rfl (by kernel_rfl) (by kernel_rfl) (by kernel_rfl) (fun _ _ _ h => h) (by kernel_rfl) ?hy14 trivial ?rest14
            case hy14 => (intro w0 hSw; first | (go_simp; done) | (go_simp; with_reducible rfl))
            try simp only [List.setIfInBounds_toArray, List.set_cons_zero, List.set_cons_succ]
            refine takeD 56 (i := 7) (v := ?v15) rfl rfl (by kernel_rfl) (by kernel_rfl) (by kernel_rfl) (fun _ _ _ h => h) (by kernel_rfl) ?hy15 trivial ?rest15
            case hy15 => (intro w0 hSw; first | (go_simp; done) | (go_simp; with_reducible rfl))
            try simp only [List.setIfInBounds_toArray, List.set_cons_zero, List.set_cons_succ]
            refine onlyE 52 (i := 3) rfl rfl (by kernel_rfl) (by kernel_rfl) (fun K hK => ?_)
            try simp only [List.setIfInBounds_toArray, List.set_cons_zero, List.set_cons_succ] at hK
            refine appE (.const (.slice none 0 0)) (.tmp 51) 23 rfl _ _ _ (by rfl) (by rfl) HR3.out ?_
            try simp only [List.setIfInBounds_toArray, List.set_cons_zero, List.set_cons_succ]
            refine hK _ _ trivial (fun _ => ?_)
            clear hK K
            refine onlyE 57 (i := 8) rfl rfl (by kernel_rfl) (by kernel_rfl) (fun K hK => ?_)
            try simp only [List.setIfInBounds_toArray, List.set_cons_zero, List.set_cons_succ] at hK
            refine appE (.tmp 52) (.tmp 56) 23 rfl _ _ _ (by rfl) (by rfl) HR8.out ?_
            try simp only [List.setIfInBounds_toArray, List.set_cons_zero, List.set_cons_succ]
            refine hK _ _ trivial (fun _ => ?_)
            clear hK K
            refine takeD 5 (i := 9) (v := ?v16) rfl rfl (by kernel_rfl) (by kernel_rfl) (by kernel_rfl) (fun _ _ _ h => h) (by kernel_rfl) ?hy16 trivial ?rest16
            case hy16 => (intro w0 hSw; first | (go_simp; done) | (go_simp; with_reducible rfl))
            try simp only [List.setIfInBounds_toArray, List.set_cons_zero, List.set_cons_succ]
            refine wpAnyH_done (by kernel_rfl) ?_ _
            generalize (if c4 = 1 then (some ⟨g, 0, none⟩ : Option Addr) else some ⟨g, 1, none⟩) = srcX
            clear hkn hkn' hkc hkc1 hkn1 hwk l0
            go_wp2
            exact ⟨⟨left.eraseIdx 0, done ++ [x], k + 1, p8, s'.p, n4 - 1, c8, s'.n, s'.c, w9.heap.size, rfl, rfl, by go_num, by have := HN8.out; omega, by have := HN8.out; omega, Lib.hid (by rw [HLN.out]), Lib.hid (HB9.out.trans HB8.out), (Lib.hid (by have h := HO8.out; rwa [Nat.zero_add] at h)), Lib.hid (HD9.out.bel HB8.out), Lib.hid ⟨HB9.out.size, HOB.out⟩, Lib.hid (by rw [List.length_append]; have := HDL.out; simp; omega), HFIN⟩, by show n4 - 1 < n4; have := HN8.out; omega⟩
end Go.Proofs.Ytigefdoejcggpaa
