/- kept: of raw numbers, an order in which what must be ahead is. -/
import Derived.Test.YtigefdoejcggpaaNOrder
import Derived.Test.YtigefdoejcggpaaNKeptP
import Derived.Test.YtigefdoejcggpaaNAlP
import Derived.Deep.OwnRows
namespace Go.Proofs.Ytigefdoejcggpaa
open Go.RowKit Ax
set_option linter.unusedVariables false
set_option linter.unusedSimpArgs false
abbrev encB (b : Bool) : List Value := [.bool b]
theorem encB_len (x : Bool) : (encB x).length = 1 := rfl
theorem boolTy : RowTy encB 1 59 4 1 :=
  ⟨fun _ => rfl, fun x u hu => by rw [List.mem_singleton.1 hu]; rfl, Try.underlying59, ⟨(Try.prog.info? 4).get (by kernel_rfl), .bool false, by kernel_rfl, by kernel_rfl, by kernel_rfl, by kernel_rfl, by kernel_rfl⟩, by decide, by decide⟩
/-- a slice literal is a row of one's own -/
theorem ERow.made0 {α : Type} {enc : α → List Value} {k : Nat} {t T : TypeId} {bytes : Nat} (H : RowTy enc k t T bytes) {w : World} {base B n : Nat} {cs : Array Value} {l : List α} (hh : w.heap[B]? = some (.cells cs T (0, 0))) (hcs : cs.toList = l.flatMap enc) (hn : l.length = n) (hb : base ≤ B) (hm : n ≤ 1000) : ERow enc T k w base (.slice (some ⟨B, 0, none⟩) n n) l := by
  have hsz : cs.size = n * k := by rw [← Array.length_toList, hcs, flat_len H.len, hn]
  refine ⟨?_, .inr ⟨B, n, cs, by rw [hn], hb, hh, by omega, by unfold maxLen; omega, hsz, ?_⟩⟩
  · rw [flat_len H.len]
  · rw [hcs, hn, List.take_of_length_le (by rw [flat_len H.len, hn]; exact Nat.le_refl _)]
def dl (n : Nat) (o : List Int) : List Bool := (List.range n).map (inO o)
theorem dl_len (n : Nat) (o : List Int) : (dl n o).length = n := by unfold dl; simp
theorem dl_get {n : Nat} {o : List Int} {i : Nat} (h : i < n) : (dl n o)[i]? = some (inO o i) := by unfold dl; rw [List.getElem?_map, List.getElem?_range h]; rfl
theorem dl_set {n : Nat} {o : List Int} {i : Nat} (h : i < n) : (dl n o).set i true = dl n (o ++ [(i : Int)]) := by
  refine List.ext_getElem? fun q => ?_
  by_cases hq : q < n
  · rw [List.getElem?_set, dl_get hq]
    unfold inO
    by_cases e : i = q
    · subst e
      rw [if_pos rfl, if_pos (by rw [dl_len]; exact hq)]
      have hm : (i : Int) ∈ o ++ [(i : Int)] := by simp
      rw [dl_get hq]
      unfold inO
      rw [decide_eq_true hm]
    · rw [if_neg e, dl_get hq]
      unfold inO
      congr 1
      rw [decide_eq_decide]
      simp only [List.mem_append, List.mem_singleton]
      refine ⟨.inl, fun c => c.resolve_right fun c => e (by omega)⟩
  · rw [List.getElem?_eq_none (by rw [List.length_set, dl_len]; omega), List.getElem?_eq_none (by rw [dl_len]; omega)]
theorem made_bools (n : Nat) : (madeCells #[Value.bool false] n).toList = (dl n []).flatMap encB := by
  have h1 : (madeCells #[Value.bool false] n).size = n := size_madeCells _ _
  refine List.ext_getElem? fun q => ?_
  have e : (dl n []).flatMap encB = (List.range n).map (fun _ => Value.bool false) := by
    unfold dl
    rw [List.flatMap_map]
    show (List.range n).flatMap (fun a => [Value.bool (inO [] a)]) = _
    have : (fun a : Nat => [Value.bool (inO [] a)]) = fun a => [Value.bool false] := by funext a; unfold inO; simp
    rw [this]
    induction (List.range n) with
    | nil => rfl
    | cons a l ih => rw [List.flatMap_cons, ih]; rfl
  rw [e]
  by_cases hq : q < n
  · rw [List.getElem?_map, List.getElem?_range hq, Array.getElem?_toList]
    simp [madeCells, hq, Nat.mod_one]
  · rw [List.getElem?_eq_none (by rw [Array.length_toList, h1]; omega), List.getElem?_eq_none (by simp; omega)]
set_option maxRecDepth 100000 in
set_option maxHeartbeats 8000000 in
theorem kept_any {w : World} {p q : Option Addr} {l : List Ev} {ps : List Int} {n c m d : Nat} (hr : right l = true) (hl : LAt w p l) (hn : l.length = n) (hnc : n ≤ c) (hq : IAt w q ps) (hm : ps.length = m) (hw : ∀ x ∈ ps, inInt x) :
    Calls Try.prog 25 #[.slice p n c, .slice q m d] w fun e w' => ∃ (p' : Option Addr) (n' c' : Nat) (o : List Int), e = .returned (.slice p' n' c') ∧ Bel w w' ∧ ERow encI 3 1 w' w.heap.size (.slice p' n' c') o ∧ Ordr l o ∧ Keep l o ∧ o.length ≤ 8 := by
  have hn8 : n ≤ 8 := by have := (right_iff.1 hr).1; omega
  have HRT := Lib.hid hr
  have HL := Lib.hid hl
  have HN := Lib.hid hn
  have HNC := Lib.hid hnc
  have HQ := Lib.hid hq
  have HM := Lib.hid hm
  have HW := Lib.hid hw
  have HN8 := Lib.hid hn8
  have HN5 : Hid (n ≤ 5000) := Lib.hid (by omega)
  have hmk := run_make_row' (P := Try.prog) 59 4 (.bool false) 1 Try.underlying59 (by kernel_rfl) (by rfl) .i64 .i64 n (by omega) (by omega)
  have hx0 := heap_alloc_new w (.cells (madeCells #[.bool false] n) 4)
  have hb0 : Bel w (w.alloc (.cells (madeCells #[.bool false] n) 4)) := (Bel.refl w).alloc _ _
  have ho0 := ERow.made0 boolTy (base := w.heap.size) (n := n) (l := dl n []) hx0 (made_bools n) (dl_len _ _) (Nat.le_refl _) (by omega)
  clear hr hl hn hnc hq hm hw
  go_enter Try.func25, Try.ntmps25
  go_upto_region 3 with (fail)
  generalize hWW : w.alloc (.cells (madeCells #[.bool false] n) 4) = W0 at hb0 hx0 ho0 ⊢
  clear hWW hmk
  have HDG : Hid (w.heap.size ≤ w.heap.size) := Lib.hid (Nat.le_refl _)
  obtain ⟨gd, hgd⟩ : ∃ g, w.heap.size = g := ⟨_, rfl⟩
  rw [hgd] at ho0 hx0 ⊢
  have HGD := Lib.hid hgd
  have HB0 := Lib.hid hb0
  have HO0 := Lib.hid ho0
  clear hb0 hx0 ho0 hgd
  go_wp2
  go_loopw [7, 5] (fun i v wr => ∃ (k : Nat) (o : List Int) (p3 : Option Addr) (n3 c3 : Nat), k ≤ n ∧ i = .int .i64 k ∧ v = .slice p3 n3 c3 ∧ Hid (Bel w wr) ∧ Hid (ERow encB 4 1 wr gd (.slice (some ⟨gd, 0, none⟩) n n) (dl n o)) ∧ Hid (ERow encI 3 1 wr gd (.slice p3 n3 c3) o) ∧ Hid (KInv l o) ∧ Hid (o.length = k)) (fun i _ _ => n - (intOf i).toNat)
  case atStart => exact ⟨0, [], none, 0, 0, Nat.zero_le _, rfl, rfl, Lib.hid HB0.out, Lib.hid HO0.out, Lib.hid (ERow.nil _ _ _ _ _), Lib.hid (KInv.nil l), Lib.hid rfl⟩
  case round =>
    obtain ⟨k, o, p3, n3, c3, hk, rfl, rfl, HB, HD, HO, HK, HOL⟩ := hrel
    by_cases hlt : k < n
    · obtain ⟨W1, hW1⟩ : ∃ W, W = wr := ⟨_, rfl⟩
      rw [← hW1] at HB HD HO ⊢
      clear hW1
      have hkn : (k : Int) < n := by omega
      go_wp2
      go_loopw [9, 8] (fun i v ws => ∃ (j : Nat) (p4 : Option Addr) (n4 c4 : Nat), j ≤ n ∧ i = .int .i64 j ∧ v = .slice p4 n4 c4 ∧ Hid (Bel W1 ws) ∧ Hid (ERow encI 3 1 ws W1.heap.size (.slice p4 n4 c4) (freeV l o j))) (fun i _ _ => n - (intOf i).toNat)
      case atStart => exact ⟨0, none, 0, 0, Nat.zero_le _, rfl, rfl, Lib.hid (Bel.refl _), Lib.hid (ERow.nil _ _ _ _ _)⟩
      case round =>
        obtain ⟨j, p4, n4, c4, hj, rfl, rfl, HB2, HF⟩ := hrel
        by_cases hlt2 : j < n
        · obtain ⟨b, ol, rfl, hb, hc⟩ := LAt.get (LAt.bel HL.out (HB.out.trans HB2.out)) (i0 := j) (by have := HN.out; omega)
          obtain ⟨-, c1, -, -⟩ := hc j (by have := HN.out; omega)
          have HD2 := Lib.hid (HD.out.bel HB2.out)
          obtain ⟨g', cs, ep, -, hg', -, -, -, -, hcell⟩ := ERow.at (s := ⟨some ⟨gd, 0, none⟩, n, n⟩) encB_len HD2.out (dl_get hlt2)
          cases ep
          have d0 := hcell 0 _ rfl
          rw [Nat.mul_one, Nat.add_zero] at d0
          have H0 : Hid (frk l o j 0 = (decide ((ev l j).2.1 ≠ 3) && !(inO o j))) := Lib.hid (by unfold frk; simp)
          generalize (ev l j).2.1 = x1 at c1 H0
          generalize hio : inO o j = dj at d0 H0
          clear hio
          have hjn : (j : Int) < n := by omega
          have HJN : Hid (j < n) := Lib.hid hlt2
          obtain ⟨b0, hb0⟩ : ∃ b0, frk l o j 0 = b0 := ⟨_, rfl⟩
          have HB00 := Lib.hid hb0
          rw [hb0] at H0
          clear hb0 hc hb hcell hg' cs
          have hin : ∀ x : Bool, x = b0 → True := fun _ _ => trivial
          clear hin
          obtain ⟨W2, hW2⟩ : ∃ W, W = wr := ⟨_, rfl⟩
          rw [← hW2] at HB2 HF HD2 c1 d0 ⊢
          clear hW2
          by_cases h3 : x1 = 3
          · have e3 : (x1 != 3) = false := by simp [h3]
            obtain rfl : b0 = false := by rw [H0.out]; simp [h3]
            clear h3
            go_wp2
            go_loopw [11, 10] (fun i v wt => ∃ (k2 : Nat), k2 ≤ j ∧ i = .int .i64 k2 ∧ v = .bool (frk l o j k2) ∧ Hid (Bel W2 wt)) (fun i _ _ => j - (intOf i).toNat)
            case atStart => exact ⟨0, Nat.zero_le _, rfl, by rw [HB00.out], Lib.hid (Bel.refl _)⟩
            case round =>
              obtain ⟨k2, hk2, rfl, rfl, HB3⟩ := hrel
              have HFS := Lib.hid (frk_succ l o j k2)
              obtain ⟨fk, hfk⟩ : ∃ fk, frk l o j k2 = fk := ⟨_, rfl⟩
              rw [hfk] at HFS ⊢
              have HFK := Lib.hid hfk
              clear hfk
              by_cases hk2j : k2 < j
              · have hkj : (k2 : Int) < j := by omega
                cases fk
                · have HFR : Hid (freeV l o (j + 1) = freeV l o j) := Lib.hid (free_no (frk_false HFK.out hk2))
                  have HF3 := Lib.hid (HF.out.bel HB3.out)
                  go_wp2
                  exact ⟨⟨j + 1, p4, n4, c4, by omega, by go_num, rfl, Lib.hid (HB2.out.trans HB3.out), Lib.hid (by rw [HFR.out]; exact HF3.out)⟩, by simp [intOf]; omega⟩
                · have HD3 := Lib.hid (HD2.out.bel HB3.out)
                  obtain ⟨g', cs, ep, -, hg', -, -, -, -, hcell⟩ := ERow.at (s := ⟨some ⟨gd, 0, none⟩, n, n⟩) encB_len HD3.out (dl_get (show k2 < n by have := HJN.out; omega))
                  cases ep
                  have d2 := hcell 0 _ rfl
                  rw [Nat.mul_one, Nat.add_zero] at d2
                  have hk2n : (k2 : Int) < n := by have := HJN.out; omega
                  obtain ⟨kv, hkv⟩ : ∃ kv, keepsV l k2 j = kv := ⟨_, rfl⟩
                  have HKV := Lib.hid hkv
                  rw [hkv] at HFS
                  generalize hio : inO o k2 = d3 at d2 HFS
                  clear hkv hio hcell hg' cs
                  cases d3
                  · go_wp2_with (go_at_call 17; ((with_reducible refine (keepsV_lit (LAt.bel HL.out (HB.out.trans (HB2.out.trans HB3.out))) HN.out HNC.out HN5.out HKV.out).mono ?_); rintro e w9 ⟨rfl, hbz⟩; have HBZ := Lib.hid (HB3.out.trans hbz); clear hbz))
                    exact ⟨⟨k2 + 1, by omega, by go_num, by rw [HFS.out]; rfl, HBZ⟩, by simp [intOf]; omega⟩
                  · go_wp2
                    exact ⟨⟨k2 + 1, by omega, by go_num, by rw [HFS.out]; rfl, HB3⟩, by simp [intOf]; omega⟩
              · obtain rfl : k2 = j := by omega
                have HF3 := Lib.hid (HF.out.bel HB3.out)
                cases fk
                · have HFR : Hid (freeV l o (k2 + 1) = freeV l o k2) := Lib.hid (free_no HFK.out)
                  go_wp2
                  exact ⟨⟨k2 + 1, p4, n4, c4, by omega, by go_num, rfl, Lib.hid (HB2.out.trans HB3.out), Lib.hid (by rw [HFR.out]; exact HF3.out)⟩, by simp [intOf]; omega⟩
                · have HFR : Hid (freeV l o (k2 + 1) = freeV l o k2 ++ [(k2 : Int)]) := Lib.hid (free_yes HFK.out)
                  obtain ⟨s', w9, hrun, hown, -, hbel, -⟩ := push_one (s := ⟨p4, n4, c4⟩) intTy HF3.out (x := (k2 : Int)) (cs := #[.int .i64 (k2 : Int)]) rfl (c := 1) (by have := free_len l o k2; omega) ((HB2.out.trans HB3.out).size)
                  have HRUN := Lib.hid hrun
                  have HE9 : Hid (ERow encI 3 1 w9 W1.heap.size s'.val (freeV l o (k2 + 1))) := Lib.hid (by rw [HFR.out]; exact hown)
                  have HB9 := Lib.hid (hbel _ (HB2.out.trans HB3.out) rfl)
                  clear hrun hown hbel
                  go_wp2_with (at_builtin; refine wpList_app rfl (.tmp 61) (.tmp 63) 23 rfl _ _ _ (by rfl) (by rfl) HRUN.out ?_)
                  exact ⟨⟨k2 + 1, s'.p, s'.n, s'.c, by omega, by go_num, rfl, HB9, HE9⟩, by simp [intOf]; omega⟩
          · have e3 : (x1 != 3) = true := by simp [h3]
            have H1 : Hid (b0 = !dj) := Lib.hid (by rw [H0.out]; simp [h3])
            clear h3
            cases dj
            · obtain rfl : b0 = true := H1.out
              go_wp2
              go_loopw [11, 10] (fun i v wt => ∃ (k2 : Nat), k2 ≤ j ∧ i = .int .i64 k2 ∧ v = .bool (frk l o j k2) ∧ Hid (Bel W2 wt)) (fun i _ _ => j - (intOf i).toNat)
              case atStart => exact ⟨0, Nat.zero_le _, rfl, by rw [HB00.out], Lib.hid (Bel.refl _)⟩
              case round =>
                obtain ⟨k2, hk2, rfl, rfl, HB3⟩ := hrel
                have HFS := Lib.hid (frk_succ l o j k2)
                obtain ⟨fk, hfk⟩ : ∃ fk, frk l o j k2 = fk := ⟨_, rfl⟩
                rw [hfk] at HFS ⊢
                have HFK := Lib.hid hfk
                clear hfk
                by_cases hk2j : k2 < j
                · have hkj : (k2 : Int) < j := by omega
                  cases fk
                  · have HFR : Hid (freeV l o (j + 1) = freeV l o j) := Lib.hid (free_no (frk_false HFK.out hk2))
                    have HF3 := Lib.hid (HF.out.bel HB3.out)
                    go_wp2
                    exact ⟨⟨j + 1, p4, n4, c4, by omega, by go_num, rfl, Lib.hid (HB2.out.trans HB3.out), Lib.hid (by rw [HFR.out]; exact HF3.out)⟩, by simp [intOf]; omega⟩
                  · have HD3 := Lib.hid (HD2.out.bel HB3.out)
                    obtain ⟨g', cs, ep, -, hg', -, -, -, -, hcell⟩ := ERow.at (s := ⟨some ⟨gd, 0, none⟩, n, n⟩) encB_len HD3.out (dl_get (show k2 < n by have := HJN.out; omega))
                    cases ep
                    have d2 := hcell 0 _ rfl
                    rw [Nat.mul_one, Nat.add_zero] at d2
                    have hk2n : (k2 : Int) < n := by have := HJN.out; omega
                    obtain ⟨kv, hkv⟩ : ∃ kv, keepsV l k2 j = kv := ⟨_, rfl⟩
                    have HKV := Lib.hid hkv
                    rw [hkv] at HFS
                    generalize hio : inO o k2 = d3 at d2 HFS
                    clear hkv hio hcell hg' cs
                    cases d3
                    · go_wp2_with (go_at_call 17; ((with_reducible refine (keepsV_lit (LAt.bel HL.out (HB.out.trans (HB2.out.trans HB3.out))) HN.out HNC.out HN5.out HKV.out).mono ?_); rintro e w9 ⟨rfl, hbz⟩; have HBZ := Lib.hid (HB3.out.trans hbz); clear hbz))
                      exact ⟨⟨k2 + 1, by omega, by go_num, by rw [HFS.out]; rfl, HBZ⟩, by simp [intOf]; omega⟩
                    · go_wp2
                      exact ⟨⟨k2 + 1, by omega, by go_num, by rw [HFS.out]; rfl, HB3⟩, by simp [intOf]; omega⟩
                · obtain rfl : k2 = j := by omega
                  have HF3 := Lib.hid (HF.out.bel HB3.out)
                  cases fk
                  · have HFR : Hid (freeV l o (k2 + 1) = freeV l o k2) := Lib.hid (free_no HFK.out)
                    go_wp2
                    exact ⟨⟨k2 + 1, p4, n4, c4, by omega, by go_num, rfl, Lib.hid (HB2.out.trans HB3.out), Lib.hid (by rw [HFR.out]; exact HF3.out)⟩, by simp [intOf]; omega⟩
                  · have HFR : Hid (freeV l o (k2 + 1) = freeV l o k2 ++ [(k2 : Int)]) := Lib.hid (free_yes HFK.out)
                    obtain ⟨s', w9, hrun, hown, -, hbel, -⟩ := push_one (s := ⟨p4, n4, c4⟩) intTy HF3.out (x := (k2 : Int)) (cs := #[.int .i64 (k2 : Int)]) rfl (c := 1) (by have := free_len l o k2; omega) ((HB2.out.trans HB3.out).size)
                    have HRUN := Lib.hid hrun
                    have HE9 : Hid (ERow encI 3 1 w9 W1.heap.size s'.val (freeV l o (k2 + 1))) := Lib.hid (by rw [HFR.out]; exact hown)
                    have HB9 := Lib.hid (hbel _ (HB2.out.trans HB3.out) rfl)
                    clear hrun hown hbel
                    go_wp2_with (at_builtin; refine wpList_app rfl (.tmp 61) (.tmp 63) 23 rfl _ _ _ (by rfl) (by rfl) HRUN.out ?_)
                    exact ⟨⟨k2 + 1, s'.p, s'.n, s'.c, by omega, by go_num, rfl, HB9, HE9⟩, by simp [intOf]; omega⟩
            · obtain rfl : b0 = false := H1.out
              go_wp2
              go_loopw [11, 10] (fun i v wt => ∃ (k2 : Nat), k2 ≤ j ∧ i = .int .i64 k2 ∧ v = .bool (frk l o j k2) ∧ Hid (Bel W2 wt)) (fun i _ _ => j - (intOf i).toNat)
              case atStart => exact ⟨0, Nat.zero_le _, rfl, by rw [HB00.out], Lib.hid (Bel.refl _)⟩
              case round =>
                obtain ⟨k2, hk2, rfl, rfl, HB3⟩ := hrel
                have HFS := Lib.hid (frk_succ l o j k2)
                obtain ⟨fk, hfk⟩ : ∃ fk, frk l o j k2 = fk := ⟨_, rfl⟩
                rw [hfk] at HFS ⊢
                have HFK := Lib.hid hfk
                clear hfk
                by_cases hk2j : k2 < j
                · have hkj : (k2 : Int) < j := by omega
                  cases fk
                  · have HFR : Hid (freeV l o (j + 1) = freeV l o j) := Lib.hid (free_no (frk_false HFK.out hk2))
                    have HF3 := Lib.hid (HF.out.bel HB3.out)
                    go_wp2
                    exact ⟨⟨j + 1, p4, n4, c4, by omega, by go_num, rfl, Lib.hid (HB2.out.trans HB3.out), Lib.hid (by rw [HFR.out]; exact HF3.out)⟩, by simp [intOf]; omega⟩
                  · have HD3 := Lib.hid (HD2.out.bel HB3.out)
                    obtain ⟨g', cs, ep, -, hg', -, -, -, -, hcell⟩ := ERow.at (s := ⟨some ⟨gd, 0, none⟩, n, n⟩) encB_len HD3.out (dl_get (show k2 < n by have := HJN.out; omega))
                    cases ep
                    have d2 := hcell 0 _ rfl
                    rw [Nat.mul_one, Nat.add_zero] at d2
                    have hk2n : (k2 : Int) < n := by have := HJN.out; omega
                    obtain ⟨kv, hkv⟩ : ∃ kv, keepsV l k2 j = kv := ⟨_, rfl⟩
                    have HKV := Lib.hid hkv
                    rw [hkv] at HFS
                    generalize hio : inO o k2 = d3 at d2 HFS
                    clear hkv hio hcell hg' cs
                    cases d3
                    · go_wp2_with (go_at_call 17; ((with_reducible refine (keepsV_lit (LAt.bel HL.out (HB.out.trans (HB2.out.trans HB3.out))) HN.out HNC.out HN5.out HKV.out).mono ?_); rintro e w9 ⟨rfl, hbz⟩; have HBZ := Lib.hid (HB3.out.trans hbz); clear hbz))
                      exact ⟨⟨k2 + 1, by omega, by go_num, by rw [HFS.out]; rfl, HBZ⟩, by simp [intOf]; omega⟩
                    · go_wp2
                      exact ⟨⟨k2 + 1, by omega, by go_num, by rw [HFS.out]; rfl, HB3⟩, by simp [intOf]; omega⟩
                · obtain rfl : k2 = j := by omega
                  have HF3 := Lib.hid (HF.out.bel HB3.out)
                  cases fk
                  · have HFR : Hid (freeV l o (k2 + 1) = freeV l o k2) := Lib.hid (free_no HFK.out)
                    go_wp2
                    exact ⟨⟨k2 + 1, p4, n4, c4, by omega, by go_num, rfl, Lib.hid (HB2.out.trans HB3.out), Lib.hid (by rw [HFR.out]; exact HF3.out)⟩, by simp [intOf]; omega⟩
                  · have HFR : Hid (freeV l o (k2 + 1) = freeV l o k2 ++ [(k2 : Int)]) := Lib.hid (free_yes HFK.out)
                    obtain ⟨s', w9, hrun, hown, -, hbel, -⟩ := push_one (s := ⟨p4, n4, c4⟩) intTy HF3.out (x := (k2 : Int)) (cs := #[.int .i64 (k2 : Int)]) rfl (c := 1) (by have := free_len l o k2; omega) ((HB2.out.trans HB3.out).size)
                    have HRUN := Lib.hid hrun
                    have HE9 : Hid (ERow encI 3 1 w9 W1.heap.size s'.val (freeV l o (k2 + 1))) := Lib.hid (by rw [HFR.out]; exact hown)
                    have HB9 := Lib.hid (hbel _ (HB2.out.trans HB3.out) rfl)
                    clear hrun hown hbel
                    go_wp2_with (at_builtin; refine wpList_app rfl (.tmp 61) (.tmp 63) 23 rfl _ _ _ (by rfl) (by rfl) HRUN.out ?_)
                    exact ⟨⟨k2 + 1, s'.p, s'.n, s'.c, by omega, by go_num, rfl, HB9, HE9⟩, by simp [intOf]; omega⟩
        · obtain rfl : j = n := by omega
          have hfl := free_len l o j
          obtain ⟨fv, hfv⟩ : ∃ fv, freeV l o j = fv := ⟨_, rfl⟩
          have HFV := Lib.hid hfv
          rw [hfv] at HF hfl
          have HNF : Hid (n4 = fv.length) := Lib.hid (ERow.n (s := ⟨p4, n4, c4⟩) HF.out)
          clear hfv
          by_cases h0 : n4 = 0
          · subst h0
            have HALL := Lib.hid (HK.out.keeps (HK.out.stuck (fun i hi => free_nil (j := j) (by rw [HFV.out]; exact List.length_eq_zero_iff.1 HNF.out.symm) i (by have := HN.out; omega))))
            have HO2 := Lib.hid (HO.out.bel HB2.out)
            have HL8 : Hid (o.length ≤ 8) := Lib.hid (by have := HOL.out; have := HN8.out; omega)
            go_wp2
            go_ret
            exact ⟨p3, n3, c3, o, rfl, HB.out.trans HB2.out, HO2.out.mono (by rw [HGD.out]; exact Nat.le_refl _), HALL.out.1, HALL.out.2, HL8.out⟩
          · have h0' : ((n4 : Int) == 0) = false := by simp [h0]
            have hn4 : n4 ≤ 8 := by have := HNF.out; omega
            clear hfl
            obtain ⟨kk, HKK, HPICK⟩ : ∃ kk : Nat, Hid (kk < fv.length) ∧ Hid ((∀ c, ps[k]? = some c → pick c (n4 : Int) = (kk : Int)) ∧ (m ≤ k → kk = 0)) := by
              by_cases hkm : k < m
              · have hg := get_of (o := ps) (p := k) (by have := HM.out; omega)
                have hpb := pick_bd (ps.getD k 0) (n := (n4 : Int)) (by omega)
                refine ⟨(pick (ps.getD k 0) (n4 : Int)).toNat, Lib.hid (by have := HNF.out; omega), Lib.hid ⟨fun c hc => ?_, fun h => by omega⟩⟩
                rw [hg] at hc
                cases hc
                omega
              · refine ⟨0, Lib.hid (by have := HNF.out; omega), Lib.hid ⟨fun c hc => ?_, fun _ => rfl⟩⟩
                have := (List.getElem?_eq_some_iff.1 hc).1
                have := HM.out
                omega
            have hkk4 : (kk : Int) < n4 := by have := HKK.out; have := HNF.out; omega
            obtain ⟨g, cs, ep, hbg, hg, -, -, -, -, hcell⟩ := ERow.at (s := ⟨p4, n4, c4⟩) encI_len HF.out (get_of HKK.out)
            have ep : p4 = some ⟨g, 0, none⟩ := ep
            subst ep
            have f0 := hcell 0 _ rfl
            rw [Nat.mul_one, Nat.add_zero] at f0
            obtain ⟨x, hx, hxn, hfx⟩ := mem_free (l := l) (o := o) (j := j) (x := fv.getD kk 0) (by rw [HFV.out]; exact List.mem_of_getElem? (get_of HKK.out))
            rw [hx] at f0
            have HKN := Lib.hid (HK.out.step HRT.out (by have := HN.out; omega) hfx)
            have HF0 := Lib.hid f0
            have HD2 := Lib.hid (HD.out.bel HB2.out)
            have hgd2 : ∃ cs, wr.heap[gd]? = some (.cells cs 4 (0, 0)) := (ERow.blk (b := gd) HD2.out rfl).2
            obtain ⟨cs2, hgd2⟩ := hgd2
            have hne : g ≠ gd := by
              rintro rfl
              rw [hg] at hgd2
              injection hgd2 with h
              injection h with _ h _
              exact absurd h (by decide)
            have hxn' : (x : Int) < j := by omega
            have fz := frozen_of_heap hgd2 x
            obtain ⟨g8, cs8, ep8, -, -, -, -, -, -, hcd⟩ := ERow.at (s := ⟨some ⟨gd, 0, none⟩, j, j⟩) encB_len HD2.out (dl_get hxn)
            cases ep8
            have dz := hcd 0 _ rfl
            rw [Nat.mul_one, Nat.add_zero] at dz
            -- done[x] is set
            have HD3 := Lib.hid (ERow.setf encB_len HD2.out (x' := true) (dl_get hxn) (f := 0) (by decide) (u := .bool true) rfl)
            rw [Nat.mul_one, Nat.add_zero, dl_set hxn] at HD3
            have hb3 : Bel w (wr.setCell ⟨gd, x, none⟩ (.bool true)) := Bel.setCell (HB.out.trans HB2.out) (by rw [HGD.out]; exact Nat.le_refl _) _
            have f1 : (wr.setCell ⟨gd, x, none⟩ (.bool true)).cell? ⟨g, kk, none⟩ = some (.int .i64 (x : Int)) := ((Svg.set gd x wr (.bool true)).cell (p := ⟨g, kk, none⟩) (lt_of_heap hg) hne).trans f0
            have ho3 := ERow.sv (HO.out.bel HB2.out) (Svg.set gd x wr (.bool true)) (fun b hb c => by
              obtain ⟨_, cs3, h3⟩ := ERow.blk (HO.out.bel HB2.out) hb
              rw [c, hgd2] at h3
              injection h3 with h3
              injection h3 with _ h3 _
              exact absurd h3 (by decide))
            have HX9 : Hid (∀ W : World, True) := Lib.hid (fun _ => trivial)
            obtain ⟨s', w9, hrun, hown, hsv, hbel, -⟩ := push_one (s := ⟨p3, n3, c3⟩) intTy ho3 (x := (x : Int)) (cs := #[.int .i64 (x : Int)]) rfl (c := 1) (by have := HOL.out; have := HN8.out; omega) (by have := hb3.size; have := HGD.out; omega)
            have hd9 := ERow.sv (HD3.out.bel ((Bel.refl _).alloc #[.int .i64 (x : Int)] 3)) hsv (fun b hb c => by
              cases hb
              obtain ⟨_, cs3, h3⟩ := ERow.blk ho3 c
              have h4 := heap_set hgd2 x (.bool true)
              rw [h4] at h3
              injection h3 with h3
              injection h3 with _ h3 _
              exact absurd h3 (by decide))
            rw [show (wr.setCell ⟨gd, x, none⟩ (.bool true)).heap.size = wr.heap.size by simp [World.setCell]] at hrun
            have HRUN := Lib.hid hrun
            have HO9 := Lib.hid hown
            have HD9 := Lib.hid hd9
            have HB9 := Lib.hid (hbel _ hb3 HGD.out.symm)
            clear hrun hown hsv hbel hd9 ho3 hb3 HD3 hgd2 hne hg hbg hcell hcd hx hfx cs cs2
            by_cases hkm : k < m
            · obtain ⟨bq, oq, rfl, hbq, hcq⟩ := IAt.get (EncAt.bel HQ.out (HB.out.trans HB2.out)) (i0 := k) (by have := HM.out; omega)
              have q0 := hcq k (by have := HM.out; omega)
              have HPK := Lib.hid (get_of (o := ps) (p := k) (by have := HM.out; omega))
              have HPI := Lib.hid (HW.out _ (List.mem_of_getElem? HPK.out))
              have HPV := Lib.hid (HPICK.out.1 _ HPK.out)
              generalize ps.getD k 0 = pc at q0 HPI HPV
              have hkm' : (k : Int) < m := by omega
              have h1n : (1 : Int) ≤ n4 := by omega
              clear hcq hbq
              go_wp2_with (first | (go_at_call 14; ((with_reducible refine (pick_lit HPV.out HPI.out h1n _).mono ?_); rintro e wq ⟨rfl, rfl⟩)) | (at_builtin; refine wpList_app rfl (.tmp 85) (.tmp 90) 23 rfl _ _ _ (by rfl) (by rfl) HRUN.out ?_))
              exact ⟨⟨k + 1, o ++ [(x : Int)], s'.p, s'.n, s'.c, by omega, by go_num, rfl, HB9, HD9, HO9, HKN, Lib.hid (by rw [List.length_append, HOL.out]; rfl)⟩, by simp [intOf]; omega⟩
            · have hkm' : ¬ (k : Int) < m := by omega
              obtain rfl : kk = 0 := HPICK.out.2 (by omega)
              go_wp2_with (at_builtin; refine wpList_app rfl (.tmp 85) (.tmp 90) 23 rfl _ _ _ (by rfl) (by rfl) HRUN.out ?_)
              exact ⟨⟨k + 1, o ++ [(x : Int)], s'.p, s'.n, s'.c, by omega, by go_num, rfl, HB9, HD9, HO9, HKN, Lib.hid (by rw [List.length_append, HOL.out]; rfl)⟩, by simp [intOf]; omega⟩
    · obtain rfl : k = n := by omega
      have HALL := Lib.hid (HK.out.keeps (HK.out.full (by have := HOL.out; have := HN.out; omega)))
      have HL8 : Hid (o.length ≤ 8) := Lib.hid (by have := HOL.out; have := HN8.out; omega)
      go_wp2
      go_ret
      exact ⟨p3, n3, c3, o, rfl, HB.out, HO.out.mono (by rw [HGD.out]; exact Nat.le_refl _), HALL.out.1, HALL.out.2, HL8.out⟩
end Go.Proofs.Ytigefdoejcggpaa
