/- Places, Find and Assemble of package label. -/
import Derived.Test.YtcockpphacebbaaLIns
import Derived.Test.YtcockpphacebbaaDEnc
namespace Go.Proofs.Ytcockpphacebbaa
open Go.RowKit Rv Lb
set_option linter.unusedVariables false
theorem layer_is (b o c : Nat) (l : List Itm) (w : World) (HI : ItemsAt w b o l) (hpos : 1 ≤ l.length) (hm : l.length ≤ 9223372036854775807) (HWF : ∀ x ∈ l, Itm.wf x) : Calls Try.prog 32 #[.slice (some ⟨b, o, none⟩) l.length c] w (LayIs l b o c w) := by
  by_cases h : 40000 < l.length
  · exact lay_long b o c l w h hm
  · exact layer_any b o c l w HI (by omega) hpos HWF
def PlacesIs (l : List Itm) (w : World) (e : Ending) (w' : World) : Prop :=
  Both w w' ∧ ((layE l ≠ 0 ∧ e = .returned (.tuple #[.slice none 0 0, .int .i64 (layE l)])) ∨
    (layE l = 0 ∧ ∃ PB, e = .returned (.tuple #[.slice (some ⟨PB, 0, none⟩) (l.length + 1) (l.length + 1), .int .i64 0]) ∧ IntsAt w' PB 0 (sumsTo (szs l (Lb.fin l)) l.length)))
theorem layE_bd (l : List Itm) : 0 ≤ layE l ∧ layE l ≤ 30 := by
  unfold layE
  repeat' split
  all_goals omega
set_option maxHeartbeats 4000000 in
theorem places_any (b o c : Nat) (l : List Itm) (w : World) (HI : Hid (ItemsAt w b o l)) (hpos : 1 ≤ l.length) (hm : l.length ≤ 9223372036854775807) (HWF : Hid (∀ x ∈ l, Itm.wf x)) : Calls Try.prog 14 #[.slice (some ⟨b, o, none⟩) l.length c] w (PlacesIs l w) := by
  have ex0 : ∀ (x y : Value) (W : World), (Instr.extract (.tuple #[x, y]) 0).run Try.prog W = .ok x W := fun x y W => by kernel_rfl
  have ex1 : ∀ (x y : Value) (W : World), (Instr.extract (.tuple #[x, y]) 1).run Try.prog W = .ok y W := fun x y W => by kernel_rfl
  obtain ⟨v1, v2⟩ := layE_bd l
  go_enter Try.func14, Try.ntmps14
  go_wp2_with fail
  refine (layer_is b o c l _ HI.out hpos hm HWF.out).mono ?_
  rintro e w1 ⟨hb1, ⟨hne, rfl⟩ | ⟨h0, PB, SB, sc, TB, rfl, hP, hS, hT⟩⟩
  · unfold noLayer
    obtain ⟨E, hE⟩ : ∃ E, layE l = E := ⟨_, rfl⟩
    rw [hE] at hne v1 v2 ⊢
    have hb : (E != 0) = true := by simpa using hne
    have HE := Lib.hid hE
    have HNE := Lib.hid hne
    have HB := Lib.hid hb1
    clear hE hne hb1
    go_wp2_with fail
    go_ret2
    exact ⟨HB.out.alloc _ _, Or.inl ⟨by rw [HE.out]; exact HNE.out, by rw [HE.out]; rfl⟩⟩
  · have HE := Lib.hid h0
    have HB := Lib.hid hb1
    have HP := Lib.hid hP
    clear hb1 h0 hP hS hT
    go_wp2_with fail
    go_ret2
    exact ⟨HB.out.alloc _ _, Or.inr ⟨HE.out, PB, rfl, HP.out.both ((Both.refl _).alloc _ _)⟩⟩
noncomputable def findV (l : List Itm) (s : ByteArray) : Int := if layE l = 0 then (match named l s with | none => -1 | some j => 4 * (place l (Lb.fin l) j : Int)) else -1
set_option maxRecDepth 100000 in
set_option maxHeartbeats 4000000 in
theorem find_any (b o c : Nat) (l : List Itm) (s : ByteArray) (w : World) (HI : Hid (ItemsAt w b o l)) (hpos : 1 ≤ l.length) (hm : l.length ≤ 9223372036854775807) (HWF : Hid (∀ x ∈ l, Itm.wf x)) : Calls Try.prog 19 #[.slice (some ⟨b, o, none⟩) l.length c, .string s] w fun e w' => e = .returned (.int .i64 (findV l s)) ∧ Both w w' := by
  have ex0 : ∀ (x y : Value) (W : World), (Instr.extract (.tuple #[x, y]) 0).run Try.prog W = .ok x W := fun x y W => by kernel_rfl
  have ex1 : ∀ (x y : Value) (W : World), (Instr.extract (.tuple #[x, y]) 1).run Try.prog W = .ok y W := fun x y W => by kernel_rfl
  obtain ⟨v1, v2⟩ := layE_bd l
  go_enter Try.func19, Try.ntmps19
  go_wp2_with fail
  refine (layer_is b o c l _ HI.out hpos hm HWF.out).mono ?_
  rintro e w1 ⟨hb1, ⟨hne, rfl⟩ | ⟨h0, PB, SB, sc, TB, rfl, hP, hS, hT⟩⟩
  · have HF : Hid (findV l s = -1) := by show _ = _; unfold findV; rw [if_neg hne]
    unfold noLayer
    generalize layE l = E at hne v1 v2
    have hb : (E != 0) = true := by simpa using hne
    have HB := Lib.hid hb1
    clear hne hb1
    go_wp2_with fail
    go_ret
    exact ⟨by rw [HF.out]; rfl, HB.out.alloc _ _⟩
  · have HE := Lib.hid h0
    have HB := Lib.hid hb1
    have HP := Lib.hid hP
    clear hb1 h0 hP hS hT v1 v2
    go_wp2_with fail
    have hb2 := HB.out.alloc #[.slice (some ⟨PB, 0, none⟩) (l.length + 1) (l.length + 1), .slice (some ⟨b, o, none⟩) l.length c, .slice (some ⟨SB, 0, none⟩) l.length sc, .slice (some ⟨TB, 0, none⟩) l.length l.length] 57
    have hY := heap_alloc_new w1 (.cells #[.slice (some ⟨PB, 0, none⟩) (l.length + 1) (l.length + 1), .slice (some ⟨b, o, none⟩) l.length c, .slice (some ⟨SB, 0, none⟩) l.length sc, .slice (some ⟨TB, 0, none⟩) l.length l.length] 57)
    have hP2 := HP.out.both ((Both.refl w1).alloc #[.slice (some ⟨PB, 0, none⟩) (l.length + 1) (l.length + 1), .slice (some ⟨b, o, none⟩) l.length c, .slice (some ⟨SB, 0, none⟩) l.length sc, .slice (some ⟨TB, 0, none⟩) l.length l.length] 57)
    have HB2 := Lib.hid hb2
    have HY := Lib.hid hY
    have HP2 := Lib.hid hP2
    clear hb2 hY hP2 HP HB
    generalize w1.alloc (.cells #[.slice (some ⟨PB, 0, none⟩) (l.length + 1) (l.length + 1), .slice (some ⟨b, o, none⟩) l.length c, .slice (some ⟨SB, 0, none⟩) l.length sc, .slice (some ⟨TB, 0, none⟩) l.length l.length] 57) = W at HB2 HY HP2 ⊢
    generalize w1.heap.size = y at HY ⊢
    go_loopw [18] (fun i wr => ∃ k : Nat, k ≤ l.length ∧ i = .int .i64 k ∧ Hid (Both W wr) ∧ Hid (namedTo l k s = none)) (fun i _ => l.length - (intOf i).toNat)
    case atStart => exact ⟨0, by omega, rfl, Both.refl _, by show namedTo l 0 s = none; unfold namedTo; simp⟩
    case round =>
      obtain ⟨k, hk, rfl, HR, HN⟩ := hrel
      by_cases hlt : k < l.length
      · obtain ⟨kd, xo, xd, xa, xb, xn, xm, xs, hx⟩ := items_one hlt
        obtain ⟨c0, c1, c2, c3, c4, c5, c6, c7⟩ := (HI.out.both (HB2.out.trans HR.out)).get hx
        have hns := namedTo_succ hx s
        rw [HN.out] at hns
        have HNS := Lib.hid hns
        clear hns
        have hY2 := (HR.out.1.block _ (lt_of_heap HY.out)).trans HY.out
        have y0 := cell_of_heap hY2 0
        simp only [List.getElem?_toArray, List.getElem?_cons_zero] at y0
        have hpk := (HP2.out.both HR.out).2 k _ (sumsTo_get _ _ _ (Nat.le_of_lt hlt))
        rw [Nat.zero_add, sumAt_place _ _ _ (by omega)] at hpk
        have hY3 := lt_of_heap hY2
        have hPl := (HP2.out.both HR.out).1
        clear hY2 hx
        by_cases h2 : kd = 2
        · subst h2
          by_cases hs : xs = s
          · subst hs
            have HF : Hid (findV l xs = 4 * (place l (Lb.fin l) k : Int)) := by
              show _ = _
              have h3 : namedTo l (k + 1) xs = some k := by rw [HNS.out]; unfold isNamed; simp
              have h4 : named l xs = some k := by
                unfold namedTo at h3
                unfold named
                rw [← List.take_append_drop (k + 1) l, List.findIdx?_append, h3]
                rfl
              unfold findV
              rw [if_pos HE.out, h4]
            generalize 4 * (place l (Lb.fin l) k : Int) = r at hpk HF
            go_wp2_with fail
            go_ret
            exact ⟨by rw [HF.out]; rfl, (HB2.out.trans HR.out).alloc _ _⟩
          · have hs' : (xs.toList == s.toList) = false := by simpa using (fun e => hs (bytes_list e) : ¬ xs.toList = s.toList)
            have HN2 : Hid (namedTo l (k + 1) s = none) := by
              show _ = _
              rw [HNS.out]
              unfold isNamed
              simp [hs]
            clear hs
            go_wp2_with fail
            go_roundw
            case rel => exact ⟨k + 1, hlt, by go_num, HR.out.alloc _ _, HN2.out⟩
            case measure => simp [intOf]; omega
        · have h2' : (kd == 2) = false := by simp [h2]
          have HN2 : Hid (namedTo l (k + 1) s = none) := by
            show _ = _
            rw [HNS.out]
            unfold isNamed
            simp [h2]
          clear h2
          go_wp2_with fail
          go_roundw
          case rel => exact ⟨k + 1, hlt, by go_num, HR.out.alloc _ _, HN2.out⟩
          case measure => simp [intOf]; omega
      · obtain rfl : k = l.length := by omega
        have HF : Hid (findV l s = -1) := by
          show _ = _
          have h4 : named l s = none := by have := HN.out; unfold namedTo at this; rw [List.take_length] at this; exact this
          unfold findV
          rw [if_pos HE.out, h4]
        go_wp2_with fail
        go_ret
        exact ⟨by rw [HF.out]; rfl, HB2.out.trans HR.out⟩
/-- the words of the first k items -/
noncomputable def wordsTo (l : List Itm) (k : Nat) : List Int := (List.range k).flatMap fun j => match l[j]? with | none => [] | some x => (instrL l j x).map encV
theorem wordsTo_succ {l : List Itm} {k : Nat} {x : Itm} (h : l[k]? = some x) : wordsTo l (k + 1) = wordsTo l k ++ (instrL l k x).map encV := by
  unfold wordsTo
  rw [List.range_succ, List.flatMap_append]
  simp [h]
theorem number_len (d n : Int) : (number d n).length ≤ 2 := by
  unfold number
  split
  · split <;> simp
  · simp
theorem instrL_len {l : List Itm} {k : Nat} {x : Itm} (hr : rightX x = true) : (instrL l k x).length ≤ 4096 := by
  unfold instrL leadL
  have hn := number_len x.i.d x.n
  split
  · simp
  split
  · split <;> simp
  split
  · omega
  split
  · rename_i h5
    unfold rightX at hr
    rw [if_neg (by omega), if_neg (by omega), if_neg (by omega), if_neg (by omega), if_pos h5] at hr
    simp at hr
    rw [List.length_replicate]
    omega
  · simp
theorem wordsTo_len {l : List Itm} (hR : allRight l) (k : Nat) : (wordsTo l k).length ≤ 4096 * k := by
  induction k with
  | zero => simp [wordsTo]
  | succ k ih =>
    cases hx : l[k]? with
    | none =>
      have : wordsTo l (k + 1) = wordsTo l k := by
        unfold wordsTo
        rw [List.range_succ, List.flatMap_append]
        simp [hx]
      rw [this]
      omega
    | some x =>
      rw [wordsTo_succ hx, List.length_append, List.length_map]
      have := instrL_len (l := l) (k := k) (hR x (List.mem_of_getElem? hx)).1
      omega
theorem low12_wf (n : Int) : inInt (low12 n) := by have := low12_bd n; constructor <;> omega
theorem instrL_wf {l : List Itm} {k : Nat} {x : Itm} (hR : allRight l) (hlen : l.length ≤ 40000) (hk : k < l.length) (ht : to l k < l.length) (hx : l[k]? = some x) : ∀ i ∈ instrL l k x, Ins.wf i := by
  obtain ⟨hr, hw⟩ := hR x (List.mem_of_getElem? hx)
  have hi := hw.i
  have b1 := place_bd hR (Lb.fin l) k
  have b2 := place_bd hR (Lb.fin l) (to l k)
  have hb : -2000000000 ≤ byOf l k ∧ byOf l k ≤ 2000000000 := by unfold byOf; omega
  have z : ∀ n : Int, 0 ≤ n → n ≤ 100 → inInt n := fun n h1 h2 => ⟨by omega, by omega⟩
  have ho : inInt (opp x.i.op) := by
    refine z _ ?_ ?_
    · unfold opp; repeat' split
      all_goals omega
    · unfold opp; repeat' split
      all_goals omega
  intro i hi'
  unfold instrL leadL at hi'
  split at hi'
  · simp at hi'; subst hi'; exact hi
  split at hi'
  · split at hi'
    · simp at hi'; subst hi'; exact ⟨hi.op, hi.d, hi.a, hi.b, ⟨by simp only; omega, by simp only; omega⟩⟩
    · simp at hi'
      rcases hi' with rfl | rfl
      · exact ⟨ho, hi.d, hi.a, hi.b, z _ (by simp) (by simp)⟩
      · exact ⟨z _ (by simp) (by simp), z _ (by simp) (by simp), z _ (by simp) (by simp), z _ (by simp) (by simp), ⟨by simp only; omega, by simp only; omega⟩⟩
  split at hi'
  · unfold number at hi'
    split at hi'
    · split at hi'
      · simp at hi'; subst hi'; exact ⟨z _ (by simp) (by simp), hi.d, z _ (by simp) (by simp), z _ (by simp) (by simp), hw.n⟩
      · have hh : inInt (high20 x.n) := by unfold high20; constructor <;> omega
        simp at hi'
        rcases hi' with rfl | rfl
        · exact ⟨z _ (by simp) (by simp), hi.d, z _ (by simp) (by simp), z _ (by simp) (by simp), hh⟩
        · exact ⟨z _ (by simp) (by simp), hi.d, hi.d, z _ (by simp) (by simp), low12_wf _⟩
    · cases hi'
  split at hi'
  · obtain rfl := (List.mem_replicate.1 hi').2
    exact ⟨z _ (by simp [nopI]) (by simp [nopI]), z _ (by simp [nopI]) (by simp [nopI]), z _ (by simp [nopI]) (by simp [nopI]), z _ (by simp [nopI]) (by simp [nopI]), z _ (by simp [nopI]) (by simp [nopI])⟩
  · cases hi'
def AsmIs (l : List Itm) (w : World) (e : Ending) (w' : World) : Prop :=
  Both w w' ∧ ((layE l ≠ 0 ∧ e = .returned (.tuple #[.slice none 0 0, .int .i64 (layE l)])) ∨
    (layE l = 0 ∧ ∃ B c, e = .returned (.tuple #[.slice (some ⟨B, 0, none⟩) (wordsTo l l.length).length c, .int .i64 0]) ∧ IntsAt w' B 0 (wordsTo l l.length)))
/-- at the head of Assemble's outer loop -/
structure As (w wr : World) (l : List Itm) (y b o c PB SB sc TB base k : Nat) (v : Value) : Prop where
  both : Both w wr
  lay : LayD wr y l b o c PB SB sc TB
  row : IRow wr base v (wordsTo l k)
  ne : v ≠ .slice none 0 0
end Go.Proofs.Ytcockpphacebbaa
