/- Places, Find and Assemble of package label. -/
import Derived.Test.YtjjbfeoidceiiaaLIns
import Derived.Test.YtjjbfeoidceiiaaDEnc
namespace Go.Proofs.Ytjjbfeoidceiiaa
open Go.RowKit Rv Lb
set_option linter.unusedVariables false
theorem layer_is (b o c : Nat) (l : List Itm) (w : World) (HI : ItemsAt w b o l) (hpos : 1 ≤ l.length) (hm : l.length ≤ 9223372036854775807) (HWF : ∀ x ∈ l, Itm.wf x) : Calls Try.prog 32 #[.slice (some ⟨b, o, none⟩) l.length c] w (LayIs l b o c w) := by
  by_cases h : 40000 < l.length
  · exact lay_long b o c l w h hm
  · exact layer_any b o c l w HI (by omega) hpos HWF
def PlacesIs (l : List Itm) (w : World) (e : Ending) (w' : World) : Prop :=
  Both w w' ∧ ((layE l ≠ 0 ∧ e = .returned (.tuple #[.slice none 0 0, .int .i64 (layE l)])) ∨
    (layE l = 0 ∧ ∃ PB, e = .returned (.tuple #[.slice (some ⟨PB, 0, none⟩) (l.length + 1) (l.length + 1), .int .i64 0]) ∧ IntsAt w' PB 0 (sumsTo (szs l (Lb.fin l)) l.length)))
theorem layE_bd (l : List Itm) : 0 ≤ layE l ∧ layE l ≤ 30 := by
  unfold layE
  repeat' split
  all_goals omega
set_option maxHeartbeats 4000000 in
theorem places_any (b o c : Nat) (l : List Itm) (w : World) (HI : Hid (ItemsAt w b o l)) (hpos : 1 ≤ l.length) (hm : l.length ≤ 9223372036854775807) (HWF : Hid (∀ x ∈ l, Itm.wf x)) : Calls Try.prog 14 #[.slice (some ⟨b, o, none⟩) l.length c] w (PlacesIs l w) := by
  have ex0 : ∀ (x y : Value) (W : World), (Instr.extract (.tuple #[x, y]) 0).run Try.prog W = .ok x W := fun x y W => by kernel_rfl
  have ex1 : ∀ (x y : Value) (W : World), (Instr.extract (.tuple #[x, y]) 1).run Try.prog W = .ok y W := fun x y W => by kernel_rfl
  obtain ⟨v1, v2⟩ := layE_bd l
  go_enter Try.func14, Try.ntmps14
  go_wp2_with fail
  refine (layer_is b o c l _ HI.out hpos hm HWF.out).mono ?_
  rintro e w1 ⟨hb1, ⟨hne, rfl⟩ | ⟨h0, PB, SB, sc, TB, rfl, hP, hS, hT⟩⟩
  · unfold noLayer
    obtain ⟨E, hE⟩ : ∃ E, layE l = E := ⟨_, rfl⟩
    rw [hE] at hne v1 v2 ⊢
    have hb : (E != 0) = true := by simpa using hne
    have HE := Lib.hid hE
    have HNE := Lib.hid hne
    have HB := Lib.hid hb1
    clear hE hne hb1
    go_wp2_with fail
    go_ret2
    exact ⟨HB.out.alloc _ _, Or.inl ⟨by rw [HE.out]; exact HNE.out, by rw [HE.out]; rfl⟩⟩
  · have HE := Lib.hid h0
    have HB := Lib.hid hb1
    have HP := Lib.hid hP
    clear hb1 h0 hP hS hT
    go_wp2_with fail
    go_ret2
    exact ⟨HB.out.alloc _ _, Or.inr ⟨HE.out, PB, rfl, HP.out.both ((Both.refl _).alloc _ _)⟩⟩
noncomputable def findV (l : List Itm) (s : ByteArray) : Int := if layE l = 0 then (match named l s with | none => -1 | some j => 4 * (place l (Lb.fin l) j : Int)) else -1
set_option maxRecDepth 100000 in
set_option maxHeartbeats 4000000 in
theorem find_any (b o c : Nat) (l : List Itm) (s : ByteArray) (w : World) (HI : Hid (ItemsAt w b o l)) (hpos : 1 ≤ l.length) (hm : l.length ≤ 9223372036854775807) (HWF : Hid (∀ x ∈ l, Itm.wf x)) : Calls Try.prog 19 #[.slice (some ⟨b, o, none⟩) l.length c, .string s] w fun e w' => e = .returned (.int .i64 (findV l s)) ∧ Both w w' := by
  have ex0 : ∀ (x y : Value) (W : World), (Instr.extract (.tuple #[x, y]) 0).run Try.prog W = .ok x W := fun x y W => by kernel_rfl
  have ex1 : ∀ (x y : Value) (W : World), (Instr.extract (.tuple #[x, y]) 1).run Try.prog W = .ok y W := fun x y W => by kernel_rfl
  obtain ⟨v1, v2⟩ := layE_bd l
  go_enter Try.func19, Try.ntmps19
  go_wp2_with fail
  refine (layer_is b o c l _ HI.out hpos hm HWF.out).mono ?_
  rintro e w1 ⟨hb1, ⟨hne, rfl⟩ | ⟨h0, PB, SB, sc, TB, rfl, hP, hS, hT⟩⟩
  · have HF : Hid (findV l s = -1) := by show _ = _; unfold findV; rw [if_neg hne]
    unfold noLayer
    generalize layE l = E at hne v1 v2
    have hb : (E != 0) = true := by simpa using hne
    have HB := Lib.hid hb1
    clear hne hb1
    go_wp2_with fail
    go_ret
    exact ⟨by rw [HF.out]; rfl, HB.out.alloc _ _⟩
  · have HE := Lib.hid h0
    have HB := Lib.hid hb1
    have HP := Lib.hid hP
    clear hb1 h0 hP hS hT v1 v2
    go_wp2_with fail
    have hb2 := HB.out.alloc #[.slice (some ⟨PB, 0, none⟩) (l.length + 1) (l.length + 1), .slice (some ⟨b, o, none⟩) l.length c, .slice (some ⟨SB, 0, none⟩) l.length sc, .slice (some ⟨TB, 0, none⟩) l.length l.length] 57
    have hY := heap_alloc_new w1 (.cells #[.slice (some ⟨PB, 0, none⟩) (l.length + 1) (l.length + 1), .slice (some ⟨b, o, none⟩) l.length c, .slice (some ⟨SB, 0, none⟩) l.length sc, .slice (some ⟨TB, 0, none⟩) l.length l.length] 57)
    have hP2 := HP.out.both ((Both.refl w1).alloc #[.slice (some ⟨PB, 0, none⟩) (l.length + 1) (l.length + 1), .slice (some ⟨b, o, none⟩) l.length c, .slice (some ⟨SB, 0, none⟩) l.length sc, .slice (some ⟨TB, 0, none⟩) l.length l.length] 57)
    have HB2 := Lib.hid hb2
    have HY := Lib.hid hY
    have HP2 := Lib.hid hP2
    clear hb2 hY hP2 HP HB
    generalize w1.alloc (.cells #[.slice (some ⟨PB, 0, none⟩) (l.length + 1) (l.length + 1), .slice (some ⟨b, o, none⟩) l.length c, .slice (some ⟨SB, 0, none⟩) l.length sc, .slice (some ⟨TB, 0, none⟩) l.length l.length] 57) = W at HB2 HY HP2 ⊢
    generalize w1.heap.size = y at HY ⊢
    go_loopw [18] (fun i wr => ∃ k : Nat, k ≤ l.length ∧ i = .int .i64 k ∧ Hid (Both W wr) ∧ Hid (namedTo l k s = none)) (fun i _ => l.length - (intOf i).toNat)
    case atStart => exact ⟨0, by omega, rfl, Both.refl _, by show namedTo l 0 s = none; unfold namedTo; simp⟩
    case round =>
      obtain ⟨k, hk, rfl, HR, HN⟩ := hrel
      by_cases hlt : k < l.length
      · obtain ⟨kd, xo, xd, xa, xb, xn, xm, xs, hx⟩ := items_one hlt
        obtain ⟨c0, c1, c2, c3, c4, c5, c6, c7⟩ := (HI.out.both (HB2.out.trans HR.out)).get hx
        have hns := namedTo_succ hx s
        rw [HN.out] at hns
        have HNS := Lib.hid hns
        clear hns
        have hY2 := (HR.out.1.block _ (lt_of_heap HY.out)).trans HY.out
        have y0 := cell_of_heap hY2 0
        simp only [List.getElem?_toArray, List.getElem?_cons_zero] at y0
        have hpk := (HP2.out.both HR.out).2 k _ (sumsTo_get _ _ _ (Nat.le_of_lt hlt))
        rw [Nat.zero_add, sumAt_place _ _ _ (by omega)] at hpk
        have hY3 := lt_of_heap hY2
        have hPl := (HP2.out.both HR.out).1
        clear hY2 hx
        by_cases h2 : kd = 2
        · subst h2
          by_cases hs : xs = s
          · subst hs
            have HF : Hid (findV l xs = 4 * (place l (Lb.fin l) k : Int)) := by
              show _ = _
              have h3 : namedTo l (k + 1) xs = some k := by rw [HNS.out]; unfold isNamed; simp
              have h4 : named l xs = some k := by
                unfold namedTo at h3
                unfold named
                rw [← List.take_append_drop (k + 1) l, List.findIdx?_append, h3]
                rfl
              unfold findV
              rw [if_pos HE.out, h4]
            generalize 4 * (place l (Lb.fin l) k : Int) = r at hpk HF
            go_wp2_with fail
            go_ret
            exact ⟨by rw [HF.out]; rfl, (HB2.out.trans HR.out).alloc _ _⟩
          · have hs' : (xs.toList == s.toList) = false := by simpa using (fun e => hs (bytes_list e) : ¬ xs.toList = s.toList)
            have HN2 : Hid (namedTo l (k + 1) s = none) := by
              show _ = _
              rw [HNS.out]
              unfold isNamed
              simp [hs]
            clear hs
            go_wp2_with fail
            go_roundw
            case rel => exact ⟨k + 1, hlt, by go_num, HR.out.alloc _ _, HN2.out⟩
            case measure => simp [intOf]; omega
        · have h2' : (kd == 2) = false := by simp [h2]
          have HN2 : Hid (namedTo l (k + 1) s = none) := by
            show _ = _
            rw [HNS.out]
            unfold isNamed
            simp [h2]
          clear h2
          go_wp2_with fail
          go_roundw
          case rel => exact ⟨k + 1, hlt, by go_num, HR.out.alloc _ _, HN2.out⟩
          case measure => simp [intOf]; omega
      · obtain rfl : k = l.length := by omega
        have HF : Hid (findV l s = -1) := by
          show _ = _
          have h4 : named l s = none := by have := HN.out; unfold namedTo at this; rw [List.take_length] at this; exact this
          unfold findV
          rw [if_pos HE.out, h4]
        go_wp2_with fail
        go_ret
        exact ⟨by rw [HF.out]; rfl, HB2.out.trans HR.out⟩
/-- the words of the first k items -/
noncomputable def wordsTo (l : List Itm) (k : Nat) : List Int := (List.range k).flatMap fun j => match l[j]? with | none => [] | some x => (instrL l j x).map encV
theorem wordsTo_succ {l : List Itm} {k : Nat} {x : Itm} (h : l[k]? = some x) : wordsTo l (k + 1) = wordsTo l k ++ (instrL l k x).map encV := by
  unfold wordsTo
  rw [List.range_succ, List.flatMap_append]
  simp [h]
theorem number_len (d n : Int) : (number d n).length ≤ 2 := by
  unfold number
  split
  · split <;> simp
  · simp
theorem instrL_len {l : List Itm} {k : Nat} {x : Itm} (hr : rightX x = true) : (instrL l k x).length ≤ 4096 := by
  unfold instrL leadL
  have hn := number_len x.i.d x.n
  split
  · simp
  split
  · split <;> simp
  split
  · omega
  split
  · rename_i h5
    unfold rightX at hr
    rw [if_neg (by omega), if_neg (by omega), if_neg (by omega), if_neg (by omega), if_pos h5] at hr
    simp at hr
    rw [List.length_replicate]
    omega
  · simp
theorem wordsTo_len {l : List Itm} (hR : allRight l) (k : Nat) : (wordsTo l k).length ≤ 4096 * k := by
  induction k with
  | zero => simp [wordsTo]
  | succ k ih =>
    cases hx : l[k]? with
    | none =>
      have : wordsTo l (k + 1) = wordsTo l k := by
        unfold wordsTo
        rw [List.range_succ, List.flatMap_append]
        simp [hx]
      rw [this]
      omega
    | some x =>
      rw [wordsTo_succ hx, List.length_append, List.length_map]
      have := instrL_len (l := l) (k := k) (hR x (List.mem_of_getElem? hx)).1
      omega
theorem low12_wf (n : Int) : inInt (low12 n) := by have := low12_bd n; constructor <;> omega
theorem instrL_wf {l : List Itm} {k : Nat} {x : Itm} (hR : allRight l) (hlen : l.length ≤ 40000) (hk : k < l.length) (ht : to l k < l.length) (hx : l[k]? = some x) : ∀ i ∈ instrL l k x, Ins.wf i := by
  obtain ⟨hr, hw⟩ := hR x (List.mem_of_getElem? hx)
  have hi := hw.i
  have b1 := place_bd hR (Lb.fin l) k
  have b2 := place_bd hR (Lb.fin l) (to l k)
  have hb : -2000000000 ≤ byOf l k ∧ byOf l k ≤ 2000000000 := by unfold byOf; omega
  have z : ∀ n : Int, 0 ≤ n → n ≤ 100 → inInt n := fun n h1 h2 => ⟨by omega, by omega⟩
  have ho : inInt (opp x.i.op) := by
    refine z _ ?_ ?_
    · unfold opp; repeat' split
      all_goals omega
    · unfold opp; repeat' split
      all_goals omega
  intro i hi'
  unfold instrL leadL at hi'
  split at hi'
  · simp at hi'; subst hi'; exact hi
  split at hi'
  · split at hi'
    · simp at hi'; subst hi'; exact ⟨hi.op, hi.d, hi.a, hi.b, ⟨by simp only; omega, by simp only; omega⟩⟩
    · simp at hi'
      rcases hi' with rfl | rfl
      · exact ⟨ho, hi.d, hi.a, hi.b, z _ (by simp) (by simp)⟩
      · exact ⟨z _ (by simp) (by simp), z _ (by simp) (by simp), z _ (by simp) (by simp), z _ (by simp) (by simp), ⟨by simp only; omega, by simp only; omega⟩⟩
  split at hi'
  · unfold number at hi'
    split at hi'
    · split at hi'
      · simp at hi'; subst hi'; exact ⟨z _ (by simp) (by simp), hi.d, z _ (by simp) (by simp), z _ (by simp) (by simp), hw.n⟩
      · have hh : inInt (high20 x.n) := by unfold high20; constructor <;> omega
        simp at hi'
        rcases hi' with rfl | rfl
        · exact ⟨z _ (by simp) (by simp), hi.d, z _ (by simp) (by simp), z _ (by simp) (by simp), hh⟩
        · exact ⟨z _ (by simp) (by simp), hi.d, hi.d, z _ (by simp) (by simp), low12_wf _⟩
    · cases hi'
  split at hi'
  · obtain rfl := (List.mem_replicate.1 hi').2
    exact ⟨z _ (by simp [nopI]) (by simp [nopI]), z _ (by simp [nopI]) (by simp [nopI]), z _ (by simp [nopI]) (by simp [nopI]), z _ (by simp [nopI]) (by simp [nopI]), z _ (by simp [nopI]) (by simp [nopI])⟩
  · cases hi'
def AsmIs (l : List Itm) (w : World) (e : Ending) (w' : World) : Prop :=
  Both w w' ∧ ((layE l ≠ 0 ∧ e = .returned (.tuple #[.slice none 0 0, .int .i64 (layE l)])) ∨
    (layE l = 0 ∧ ∃ B c, e = .returned (.tuple #[.slice (some ⟨B, 0, none⟩) (wordsTo l l.length).length c, .int .i64 0]) ∧ IntsAt w' B 0 (wordsTo l l.length)))
/-- at the head of Assemble's outer loop -/
structure As (w wr : World) (l : List Itm) (y b o c PB SB sc TB base k : Nat) (v : Value) : Prop where
  both : Both w wr
  lay : LayD wr y l b o c PB SB sc TB
  row : IRow wr base v (wordsTo l k)
  ne : v ≠ .slice none 0 0
end Go.Proofs.Ytjjbfeoidceiiaa
/- Assemble of package label. -/
namespace Go.Proofs.Ytjjbfeoidceiiaa
open Go.RowKit Rv Lb
set_option linter.unusedVariables false
theorem layE_ok {l : List Itm} (h : layE l = 0) : l.length ≤ 40000 ∧ (∀ x ∈ l, rightX x = true) ∧ okT l = true ∧ place l (Lb.fin l) l.length ≤ 65536 := by
  unfold layE at h
  by_cases h1 : 40000 < l.length
  · rw [if_pos h1] at h; omega
  rw [if_neg h1] at h
  by_cases h2 : l.all rightX = false
  · rw [if_pos h2] at h; omega
  rw [if_neg h2] at h
  by_cases h3 : okT l = false
  · rw [if_pos h3] at h; omega
  rw [if_neg h3] at h
  by_cases h4 : 65536 < place l (Lb.fin l) l.length
  · rw [if_pos h4] at h; omega
  have h5 : l.all rightX = true := by simpa using h2
  exact ⟨by omega, fun x hx => (List.all_eq_true.1 h5) x hx, by simpa using h3, by omega⟩
theorem As.both' {w wr w' : World} {l : List Itm} {y b o c PB SB sc TB base k : Nat} {v : Value} (h : As w wr l y b o c PB SB sc TB base k v) (hb : Both wr w') : As w w' l y b o c PB SB sc TB base k v :=
  ⟨h.both.trans hb, h.lay.both hb, ownsRow_sav h.row (hb.sav fun _ => False) (fun _ _ => id), h.ne⟩
/-- at the head of the inner loop -/
structure Ai (w wr : World) (l : List Itm) (y b o c PB SB sc TB base k : Nat) (B f : Nat) (L : List Ins) (j : Nat) (v : Value) : Prop where
  both : Both w wr
  lay : LayD wr y l b o c PB SB sc TB
  row : IRow wr base v (wordsTo l k ++ (L.take j).map encV)
  ne : v ≠ .slice none 0 0
  ins : InsAt wr (some ⟨B, f, none⟩) L
  typ : ∃ cs fr, wr.heap[B]? = some (.cells cs 24 fr)
theorem Ai.both' {w wr w' : World} {l : List Itm} {y b o c PB SB sc TB base k B f j : Nat} {L : List Ins} {v : Value} (h : Ai w wr l y b o c PB SB sc TB base k B f L j v) (hb : Both wr w') : Ai w w' l y b o c PB SB sc TB base k B f L j v :=
  ⟨h.both.trans hb, h.lay.both hb, ownsRow_sav h.row (hb.sav fun _ => False) (fun _ _ => id), h.ne, h.ins.both hb, by
    obtain ⟨cs, fr, ht⟩ := h.typ
    exact ⟨cs, fr, (hb.1.block _ (lt_of_heap ht)).trans ht⟩⟩
set_option maxRecDepth 100000 in
set_option maxHeartbeats 8000000 in
theorem asm_any (b o c : Nat) (l : List Itm) (w : World) (HI : Hid (ItemsAt w b o l)) (hpos : 1 ≤ l.length) (hm : l.length ≤ 9223372036854775807) (HWF : Hid (∀ x ∈ l, Itm.wf x)) : Calls Try.prog 16 #[.slice (some ⟨b, o, none⟩) l.length c] w (AsmIs l w) := by
  have ex0 : ∀ (x y : Value) (W : World), (Instr.extract (.tuple #[x, y]) 0).run Try.prog W = .ok x W := fun x y W => by kernel_rfl
  have ex1 : ∀ (x y : Value) (W : World), (Instr.extract (.tuple #[x, y]) 1).run Try.prog W = .ok y W := fun x y W => by kernel_rfl
  obtain ⟨v1, v2⟩ := layE_bd l
  go_enter Try.func16, Try.ntmps16
  go_wp2_with fail
  refine (layer_is b o c l _ HI.out hpos hm HWF.out).mono ?_
  rintro e w1 ⟨hb1, ⟨hne, rfl⟩ | ⟨h0, PB, SB, sc, TB, rfl, hP, hS, hT⟩⟩
  · unfold noLayer
    obtain ⟨E, hE⟩ : ∃ E, layE l = E := ⟨_, rfl⟩
    rw [hE] at hne v1 v2 ⊢
    have hb : (E != 0) = true := by simpa using hne
    have HE := Lib.hid hE
    have HNE := Lib.hid hne
    have HB := Lib.hid hb1
    clear hE hne hb1
    go_wp2_with fail
    go_ret2
    exact ⟨HB.out.alloc _ _, Or.inl ⟨by rw [HE.out]; exact HNE.out, by rw [HE.out]; rfl⟩⟩
  · obtain ⟨k1, k2, k3, k4⟩ := layE_ok h0
    have HE := Lib.hid h0
    have HAR : Hid (allRight l) := fun x hx => ⟨k2 x hx, HWF.out x hx⟩
    have HOK := Lib.hid k3
    have hLD : LayD (w1.alloc (.cells #[.slice (some ⟨PB, 0, none⟩) (l.length + 1) (l.length + 1), .slice (some ⟨b, o, none⟩) l.length c, .slice (some ⟨SB, 0, none⟩) l.length sc, .slice (some ⟨TB, 0, none⟩) l.length l.length] 57)) w1.heap.size l b o c PB SB sc TB :=
      ⟨heap_alloc_new _ _, HI.out.both (hb1.alloc _ _), hP.both ((Both.refl _).alloc _ _), hS.both ((Both.refl _).alloc _ _), hT.both ((Both.refl _).alloc _ _)⟩
    have hend := hLD.places.2 l.length _ (sumsTo_get _ _ _ (Nat.le_refl _))
    rw [Nat.zero_add, sumAt_place _ _ _ (Nat.le_refl _)] at hend
    have HLD := Lib.hid hLD
    have hw1 := hb1.1.size
    have hPl := hP.1
    have hSl := hS.1
    have hTl := hT.1
    have hbl : b < w1.heap.size := Nat.lt_of_lt_of_le HI.out.1 hb1.1.size
    have HB1 := Lib.hid (hb1.alloc #[.slice (some ⟨PB, 0, none⟩) (l.length + 1) (l.length + 1), .slice (some ⟨b, o, none⟩) l.length c, .slice (some ⟨SB, 0, none⟩) l.length sc, .slice (some ⟨TB, 0, none⟩) l.length l.length] 57)
    clear h0 hb1 hP hS hT hLD k2 k3 v1 v2
    generalize place l (Lb.fin l) l.length = pe at hend k4
    have hmk := make_ints 31 Try.underlying31 0 pe (by omega) (by omega)
    rw [show (((0 : Nat) : Int)) = 0 from rfl] at hmk
    have hq : 4 * (pe : Int) / 4 = pe := by omega
    go_wp2_with (go_at_call 34; refine (end_any PB (l.length + 1) (l.length + 1) (4 * pe) _ (by omega) (by omega) (by exact hend)).mono ?_; rintro e w' ⟨rfl, rfl⟩)
    have hs1 : (w1.alloc (.cells #[.slice (some ⟨PB, 0, none⟩) (l.length + 1) (l.length + 1), .slice (some ⟨b, o, none⟩) l.length c, .slice (some ⟨SB, 0, none⟩) l.length sc, .slice (some ⟨TB, 0, none⟩) l.length l.length] 57)).heap.size = w1.heap.size + 1 := by simp
    have hrow0 := World.ownsRow_made (size := 1) (base := w1.heap.size + 1) (e := 3) (w1.alloc (.cells #[.slice (some ⟨PB, 0, none⟩) (l.length + 1) (l.length + 1), .slice (some ⟨b, o, none⟩) l.length c, .slice (some ⟨SB, 0, none⟩) l.length sc, .slice (some ⟨TB, 0, none⟩) l.length l.length] 57)) (ints (List.replicate pe 0)).toArray pe (by simp) (by unfold maxLen; omega) (by simp [ints])
    rw [hs1] at hrow0
    have hAs : As w ((w1.alloc (.cells #[.slice (some ⟨PB, 0, none⟩) (l.length + 1) (l.length + 1), .slice (some ⟨b, o, none⟩) l.length c, .slice (some ⟨SB, 0, none⟩) l.length sc, .slice (some ⟨TB, 0, none⟩) l.length l.length] 57)).alloc (.cells (ints (List.replicate pe 0)).toArray 3)) l w1.heap.size b o c PB SB sc TB (w1.heap.size + 1) 0 (.slice (some ⟨w1.heap.size + 1, 0, none⟩) 0 pe) :=
      ⟨HB1.out.alloc _ _, HLD.out.both ((Both.refl _).alloc _ _), hrow0, by simp⟩
    have HAS := Lib.hid hAs
    clear hAs hrow0 hs1 hmk HLD HB1 hend hq
    generalize (w1.alloc (.cells #[.slice (some ⟨PB, 0, none⟩) (l.length + 1) (l.length + 1), .slice (some ⟨b, o, none⟩) l.length c, .slice (some ⟨SB, 0, none⟩) l.length sc, .slice (some ⟨TB, 0, none⟩) l.length l.length] 57)).alloc (.cells (ints (List.replicate pe 0)).toArray 3) = W0 at HAS ⊢
    have hwy : w.heap.size ≤ w1.heap.size := hw1
    generalize w1.heap.size = y at HAS hPl hSl hTl hbl hwy ⊢
    go_loopw [6, 27] (fun v i wr => ∃ k : Nat, k ≤ l.length ∧ i = .int .i64 k ∧ Hid (As w wr l y b o c PB SB sc TB (y + 1) k v)) (fun _ i _ => l.length - (intOf i).toNat)
    case atStart => exact ⟨0, by omega, rfl, HAS.out⟩
    case round =>
      obtain ⟨k, hk, rfl, HA⟩ := hrel
      by_cases hlt : k < l.length
      · obtain ⟨x, hx⟩ : ∃ x, l[k]? = some x := ⟨_, List.getElem?_eq_getElem hlt⟩
        have HX := Lib.hid hx
        have HWF2 := Lib.hid (instrL_wf HAR.out k1 hlt (to_lt hpos k hlt) hx)
        have HWS := Lib.hid (wordsTo_succ hx)
        have HLN := Lib.hid (wordsTo_len HAR.out k)
        have HIL := Lib.hid (instrL_len (l := l) (k := k) (HAR.out x (List.mem_of_getElem? hx)).1)
        clear hx
        go_wp2_with fail
        refine (instrs_any y b o c PB SB sc TB k l _ HA.out.lay k1 HAR.out hlt (to_lt hpos k hlt) x HX.out).mono ?_
        rintro e w2 ⟨p, q, rfl, hat, hb2, hnew⟩
        have HA2 := Lib.hid (HA.out.both' hb2)
        generalize instrL l k x = L at hat HWF2 HWS HIL
        obtain ⟨wo, hwo⟩ : ∃ wo : World, wo = w2 := ⟨_, rfl⟩
        by_cases hL : L.length = 0
        · obtain rfl := List.eq_nil_of_length_eq_zero hL
          have HN : Hid (wordsTo l (k + 1) = wordsTo l k) := by show _ = _; rw [HWS.out]; simp
          clear hwo hat hb2 hL hnew
          go_wp2_with fail
          refine wp_loop_rounds 1 ?_
          rw [rounds_succ]
          go_wp2_with fail
          go_roundw
          case rel => exact ⟨k + 1, hlt, by go_num, ⟨HA2.out.both, HA2.out.lay, by rw [HN.out]; exact HA2.out.row, HA2.out.ne⟩⟩
          case measure => simp [intOf]; omega
        · obtain ⟨B, f, rfl, hBl, hrest⟩ := hat 0 L[0] (List.getElem?_eq_getElem (by omega))
          have HI0 : Hid (Ai w w2 l y b o c PB SB sc TB (y + 1) k B f L 0 u6) := ⟨HA2.out.both, HA2.out.lay, by simpa using HA2.out.row, HA2.out.ne, hat, hnew _ rfl⟩
          clear hwo hat hb2 hrest hL hBl hnew
          go_wp2_with fail
          have hLb := HIL.out
          go_loopw [6, 33] (fun v i wz => ∃ j : Nat, j ≤ L.length ∧ i = .int .i64 j ∧ Hid (Ai w wz l y b o c PB SB sc TB (y + 1) k B f L j v)) (fun _ i _ => L.length - (intOf i).toNat)
          case atStart => exact ⟨0, by omega, rfl, HI0.out⟩
          case round =>
            obtain ⟨j, hj, rfl, HJ⟩ := hrel
            by_cases hjl : j < L.length
            · obtain ⟨ii, hii⟩ : ∃ ii, L[j]? = some ii := ⟨_, List.getElem?_eq_getElem hjl⟩
              obtain ⟨io, id', ia, ib, in'⟩ := ii
              obtain ⟨B', f', hp, hBl, hcs⟩ := HJ.out.ins j _ hii
              obtain ⟨rfl, rfl⟩ : B = B' ∧ f = f' := by
                simp only [Option.some.injEq, Addr.mk.injEq, and_true] at hp
                exact hp
              have e0 := hcs 0 _ rfl
              have e1 := hcs 1 _ rfl
              have e2 := hcs 2 _ rfl
              have e3 := hcs 3 _ rfl
              have e4 := hcs 4 _ rfl
              rw [Nat.add_zero] at e0
              have HWI := Lib.hid (HWF2.out _ (List.mem_of_getElem? hii))
              obtain ⟨ev, hev⟩ : ∃ ev, encV ⟨io, id', ia, ib, in'⟩ = ev := ⟨_, rfl⟩
              obtain ⟨eu, heu⟩ : ∃ eu, encE ⟨io, id', ia, ib, in'⟩ = eu := ⟨_, rfl⟩
              have HEV := Lib.hid hev
              have HEU := Lib.hid heu
              have HTK : Hid ((L.take (j + 1)).map encV = (L.take j).map encV ++ [ev]) := by
                show _ = _
                obtain ⟨h1, h2⟩ := List.getElem?_eq_some_iff.1 hii
                rw [List.take_succ_eq_append_getElem h1, List.map_append, h2, ← hev]
                rfl
              clear hev heu hii hp hcs
              go_wp2_with fail
              refine (enc_lit encode_is HWI.out HEV.out HEU.out _).mono ?_
              rintro e w5 ⟨rfl, hb5⟩
              have HJ5 := Lib.hid (HJ.out.both' (((Both.refl _).alloc _ _).trans hb5))
              have HLL : Hid ((wordsTo l k ++ (L.take j).map encV).length + 1 ≤ 1099511627776) := by
                show _ ≤ _
                have h1 := HLN.out
                have h2 := HIL.out
                rw [List.length_append, List.length_map, List.length_take]
                omega
              have hbs : y + 1 ≤ w5.heap.size := lt_of_heap HJ5.out.lay.lay
              clear hb5 e0 e1 e2 e3 e4
              go_wp2_with (at_builtin; refine wpList_irow_one rfl (.tmp 42) (.tmp 44) 31 Try.underlying31 rfl (y + 1) _ _ rfl (HJ5.out.row.alloc _) _ ev rfl (World.cell?_alloc_new _ _ _ 0) HLL.out (by simp; omega) ?_; intro v' w6 h1 h2 h3)
              have HJ6 : Hid (Ai w w6 l y b o c PB SB sc TB (y + 1) k B f L (j + 1) v') := by
                have hown : ∀ q, _ → y + 1 ≤ q := fun q hq => ((HJ5.out.row.alloc (.cells #[.int .i64 ev] 3)).lt q hq).1
                have ha := (Both.refl w5).alloc #[.int .i64 ev] 3
                have hl := HJ5.out.lay.both ha
                have hnv : ¬ u6.ownBlock = some B := fun e => by
                  obtain ⟨cs, fr, ht⟩ := HJ5.out.typ
                  have hr := HJ5.out.row
                  rcases hr.2 with ⟨hv, _⟩ | ⟨g, cap, cur, hv, _, hg, _⟩
                  · rw [hv] at e
                    cases e
                  · rw [hv] at e
                    have : g = B := Option.some.inj e
                    rw [this, ht] at hg
                    simp at hg
                refine ⟨h2.both (HJ5.out.both.trans ha) (fun q hq => by have := hown q hq; omega), ⟨?_, ?_, ?_, ?_, ?_⟩, ?_, h3, ?_, ?_⟩
                · exact (h2.block y (lt_of_heap hl.lay) (fun e => by have := hown _ e; omega)).trans hl.lay
                · exact hl.items.sav h2 (fun e => by have := hown _ e; omega)
                · exact hl.places.sav h2 (fun e => by have := hown _ e; omega)
                · exact hl.sizes.sav h2 (fun e => by have := hown _ e; omega)
                · exact hl.tos.sav h2 (fun e => by have := hown _ e; omega)
                · rw [HTK.out, ← List.append_assoc]; exact h1
                · have hi := HJ5.out.ins.both ha
                  intro a i hai
                  obtain ⟨B', f', hp, hBl2, hcs2⟩ := hi a i hai
                  refine ⟨B', f', hp, Nat.lt_of_lt_of_le hBl2 h2.size, fun kk vv hkk => ?_⟩
                  have hBB : B = B' := by
                    simp only [Option.some.injEq, Addr.mk.injEq, and_true] at hp
                    exact hp.1
                  exact (h2.cell (p := ⟨B', f' + a * 5 + kk, none⟩) hBl2 (fun e => hnv (by rw [hBB]; exact e))).trans (hcs2 kk vv hkk)
                · obtain ⟨cs, fr, ht⟩ := HJ5.out.typ
                  have ht2 := (ha.1.block _ (lt_of_heap ht)).trans ht
                  exact ⟨cs, fr, (h2.block B (lt_of_heap ht2) hnv).trans ht2⟩
              clear h1 h2 h3
              go_wp2_with fail
              go_roundw
              case rel => exact ⟨j + 1, hjl, by go_num, HJ6.out⟩
              case measure => simp [intOf]; omega
            · obtain rfl : j = L.length := by omega
              have HN : Hid (As w wr l y b o c PB SB sc TB (y + 1) (k + 1) u6) := by
                refine ⟨HJ.out.both, HJ.out.lay, ?_, HJ.out.ne⟩
                rw [HWS.out]
                have := HJ.out.row
                rw [List.take_of_length_le (Nat.le_refl _)] at this
                exact this
              clear HJ HI0 HA2
              go_wp2_with fail
              go_roundw
              case rel => exact ⟨k + 1, hlt, by go_num, HN.out⟩
              case measure => simp [intOf]; omega
      · obtain rfl : k = l.length := by omega
        obtain ⟨B, c2, hv, _, _, hat, _⟩ := HA.out.row.form HA.out.ne
        subst hv
        have HAT := Lib.hid hat
        have HB := Lib.hid HA.out.both
        clear hat HA
        go_wp2_with fail
        go_ret2
        exact ⟨HB.out, Or.inr ⟨HE.out, B, c2, rfl, HAT.out⟩⟩
end Go.Proofs.Ytjjbfeoidceiiaa
