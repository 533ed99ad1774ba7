/- Branches become long: lengthen of package label. -/
import Derived.Test.YtjjbfeoidceiiaaLLenP
import Derived.Deep.LoopGhost
namespace Go.Proofs.Ytjjbfeoidceiiaa
open Go.RowKit Rv Lb
set_option linter.unusedVariables false
theorem IRow.shape {w : World} {base : Nat} {v : Value} {l : List Int} (h : IRow w base v l) : ∃ p c, v = .slice p l.length c := by
  rcases h.2 with ⟨rfl, h0⟩ | ⟨g, cap, cur, rfl, _⟩
  · exact ⟨none, 0, by rw [h0]⟩
  · exact ⟨_, _, rfl⟩
theorem IRow.cap {w : World} {base FB n c : Nat} {l : List Int} (h : IRow w base (.slice (some ⟨FB, 0, none⟩) n c) l) : l.length ≤ c := by
  rcases h.2 with ⟨h', _⟩ | ⟨g, cap, cur, h', hb, hg, hnc, _⟩
  · cases h'
  · cases h'; exact hnc
theorem IRow.pop {w : World} {base FB c : Nat} {l : List Int} {x : Int} (h : IRow w base (.slice (some ⟨FB, 0, none⟩) (l ++ [x]).length c) (l ++ [x])) : IRow w base (.slice (some ⟨FB, 0, none⟩) l.length c) l := by
  rcases h.2 with ⟨h', _⟩ | ⟨g, cap, cur, h', hb, hg, hnc, hcm, hcs, htake⟩
  · cases h'
  · cases h'
    have hl : (l ++ [x]).length = l.length + 1 := by simp
    refine ⟨by simp [ints], .inr ⟨FB, c, cur, rfl, hb, hg, by omega, hcm, hcs, ?_⟩⟩
    have := congrArg (List.take l.length) htake
    rw [List.take_take, hl] at this
    rw [Nat.mul_one, show l.length = min l.length ((l.length + 1) * 1) by omega, this]
    unfold ints
    rw [List.map_append, List.take_left' (by simp)]
theorem IRow.put {w : World} {base SB n c : Nat} {l : List Int} (h : IRow w base (.slice (some ⟨SB, 0, none⟩) n c) l) (a : Nat) (x : Int) : IRow (w.setCell ⟨SB, a, none⟩ (.int .i64 x)) base (.slice (some ⟨SB, 0, none⟩) n c) (l.set a x) := by
  obtain rfl : n = l.length := by
    rcases h.2 with ⟨h', _⟩ | ⟨g', cap', cur, h', _⟩
    · cases h'
    · cases h'; rfl
  have := (World.ownsRow.stored h a (.int .i64 x)).1
  unfold IRow
  rw [List.length_set]
  have e : ints (l.set a x) = (ints l).set a (.int .i64 x) := by unfold ints; rw [List.map_set]
  rw [e]
  exact this
theorem szs_with1 {l : List Itm} {g : Nat → Bool} {a : Nat} (hb : brAt l a = true) (hg : g a = false) (ha : a < l.length) : (szs l g).set a 2 = szs l (with1 g a) := by
  apply List.ext_getElem?
  intro j
  rw [List.getElem?_set]
  by_cases e : a = j
  · subst e
    rw [if_pos rfl, if_pos (by rw [szs_len]; exact ha), szs_get ha, sz_with1 hb hg]
    have : sz l g a = 1 := by
      unfold brAt at hb
      unfold sz
      cases hx : l[a]? with
      | none => rw [hx] at hb; cases hb
      | some x =>
        rw [hx] at hb
        simp only at hb ⊢
        rw [hg, Bool.and_false]
        simp [size1_br hb]
    rw [this]
    simp
  · rw [if_neg e]
    by_cases hj : j < l.length
    · rw [szs_get hj, szs_get hj, sz_with1 hb hg, if_neg (fun c => e c.symm)]
      simp
    · rw [List.getElem?_eq_none (by rw [szs_len]; omega), List.getElem?_eq_none (by rw [szs_len]; omega)]
/-- some ints more, which lie in a row -/
theorem irow_many {w : World} {base base2 : Nat} {v v2 : Value} {l l2 : List Int} (h : IRow w base v l) (hv : v ≠ .slice none 0 0) (t ty : TypeId) (ht : Try.prog.underlying t = some (.slice 3)) (h2 : IRow w base2 v2 l2) (hlen : l.length + l2.length ≤ 1099511627776) (hbase : base ≤ w.heap.size) :
    ∃ v' w', (Builtin.append_ #[t, t] ty #[v, v2]).run Try.prog w = .ok v' w' ∧ IRow w' base v' (l ++ l2) ∧ Sav (fun k => v.ownBlock = some k) w w' ∧ v' ≠ .slice none 0 0 := by
  obtain ⟨i, hi, hz, hs, hb⟩ := info_int
  by_cases hn : v2 = .slice none 0 0
  · subst hn
    obtain rfl : l2 = [] := by
      rcases h2.2 with ⟨_, h0⟩ | ⟨g, cap, cur, h', _⟩
      · exact List.eq_nil_of_length_eq_zero h0
      · cases h'
    obtain ⟨B, c, rfl, _, _, _, _⟩ := h.form hv
    exact ⟨_, w, run_append_owned_none (P := Try.prog) w base t ty 3 i 1 ht hi _ l.length (ints l) h, by simpa using h, Sav.refl _ _, hv⟩
  · obtain ⟨B2, c2, rfl, _, _, hat, _⟩ := h2.form hn
    obtain ⟨v', w', h1, h3, h4, h5⟩ := append_sav (P := Try.prog) w base t ty 3 i (.int .i64 0) 1 8 ht hi hz hs hb rfl (by decide) v l.length (ints l) h ⟨B2, 0, none⟩ l2.length c2 (ints l2) (by simp [ints])
      (by intro j u hj
          rw [Addr.add_lit]
          unfold ints at hj
          rw [List.getElem?_map] at hj
          cases e : l2[j]? with
          | none => rw [e] at hj; cases hj
          | some x =>
            rw [e] at hj
            obtain rfl := Option.some.inj hj
            exact hat.2 j x e)
      (by intro u hu; simp [ints] at hu; obtain ⟨x, _, rfl⟩ := hu; rfl) (by unfold maxLen; omega) (by omega) hbase (Or.inr hv)
    refine ⟨v', w', h1, ?_, h4, h5⟩
    have e1 : (l ++ l2).length = l.length + l2.length := by simp
    have e2 : ints (l ++ l2) = ints l ++ ints l2 := by simp [ints]
    unfold IRow
    rw [e1, e2]
    exact h3
theorem new_plus1 (w : World) (c1 c2 : Array Value) (t1 t2 : TypeId) : ((w.alloc (.cells c1 t1)).alloc (.cells c2 t2)).cell? ⟨w.heap.size + 1, 0, none⟩ = c2[0]? := by
  have s : (w.alloc (.cells c1 t1)).heap.size = w.heap.size + 1 := by simp
  rw [← s]
  exact World.cell?_alloc_new _ _ _ 0
def negTo (bs : List Br) (k : Nat) : List Nat := (List.range k).filter fun i => match bs[i]? with | none => false | some b => decide (b.room < 0)
theorem negTo_succ {bs : List Br} {k : Nat} {b : Br} (h : bs[k]? = some b) : negTo bs (k + 1) = if b.room < 0 then negTo bs k ++ [k] else negTo bs k := by
  unfold negTo
  rw [List.range_succ, List.filter_append]
  by_cases hr : b.room < 0
  · rw [if_pos hr]
    simp [h, hr]
  · rw [if_neg hr]
    simp [h, hr]
theorem negTo_len (bs : List Br) (k : Nat) : (negTo bs k).length ≤ k := by
  unfold negTo
  have := List.length_filter_le (fun i => match bs[i]? with | none => false | some b => decide (b.room < 0)) (List.range k)
  simpa using this
theorem negTo_mem {bs : List Br} {i : Nat} {b : Br} (h : bs[i]? = some b) : i ∈ negTo bs bs.length ↔ b.room < 0 := by
  unfold negTo
  rw [List.mem_filter, List.mem_range]
  have := (List.getElem?_eq_some_iff.1 h).1
  constructor
  · rintro ⟨_, h2⟩
    simp only [h] at h2
    exact of_decide_eq_true h2
  · intro h2
    refine ⟨this, ?_⟩
    simp only [h]
    exact decide_eq_true h2
theorem ats_brs (l : List Itm) : brsTo l l.length = (ats l).map (brOf l) := rfl
theorem LenInv.start {l : List Itm} (hR : allRight l) (hN : l.length ≤ 40000) (hT : ∀ k, k < l.length → to l k < l.length) : LenInv l (brsTo l l.length) (negTo (brsTo l l.length) (brsTo l l.length).length) none' := by
  have hst : Stat l (brsTo l l.length) := by
    refine ⟨?_, ?_⟩
    · rw [ats_brs, List.map_map]
      exact List.map_id _
    · intro b hb
      rw [ats_brs] at hb
      obtain ⟨k, _, rfl⟩ := List.mem_map.1 hb
      rfl
  have hroom : ∀ (i : Nat) (b : Br), (brsTo l l.length)[i]? = some b → b.room = room l none' b.at' := fun i b hb => by
    rw [ats_brs] at hb
    have := List.mem_of_getElem? hb
    obtain ⟨k, _, rfl⟩ := List.mem_map.1 this
    rfl
  refine ⟨hst, fun i b hb => ?_, fun i b _ _ => rfl, List.Pairwise.filter _ List.nodup_range, fun i hi => ?_, fun i b hb _ => hroom i b hb, fun i b hi hb => ?_, fun k hk => (by cases hk), fun i b hb => ?_⟩
  · rw [negTo_mem hb]
    simp [none']
  · unfold negTo at hi
    rw [List.mem_filter, List.mem_range] at hi
    exact hi.1
  · have h1 := (negTo_mem hb).1 hi
    rw [hroom i b hb] at h1
    exact fin_of_no (g := none') (fun k hk => by cases hk) (hst.br hb).1 h1
  · have hlt := (hst.br hb).2
    have h1 := place_bd hR none' b.at'
    have h2 := place_bd hR none' (to l b.at')
    have h3 := hT _ hlt
    have hc : cnt l none' = (brsTo l l.length).length := by
      rw [hst.len]
      unfold cnt none'
      simp
    rw [hroom i b hb, hc]
    unfold room
    split
    · have := place_mono l none' (Nat.le_of_lt (by assumption : b.at' < to l b.at'))
      omega
    · have := place_mono l none' (Nat.le_of_not_lt (by assumption : ¬ b.at' < to l b.at'))
      omega
theorem BRow.shape {w : World} {base : Nat} {v : Value} {l : List Br} (h : BRow w base v l) : (v = .slice none 0 0 ∧ l = []) ∨ ∃ B c, v = .slice (some ⟨B, 0, none⟩) l.length c ∧ base ≤ B ∧ B < w.heap.size := by
  rcases h.2 with ⟨rfl, h0⟩ | ⟨g, cap, cur, rfl, hb, hg, _⟩
  · exact Or.inl ⟨rfl, List.eq_nil_of_length_eq_zero h0⟩
  · exact Or.inr ⟨g, cap, rfl, hb, lt_of_heap hg⟩
theorem nodup_len {M : Nat} : ∀ {xs : List Nat}, xs.Nodup → (∀ x ∈ xs, x < M) → xs.length ≤ M := by
  induction M with
  | zero =>
    intro xs _ h
    cases xs with
    | nil => simp
    | cons x t => exact absurd (h x (by simp)) (by omega)
  | succ M ih =>
    intro xs hn h
    have h1 := ih (xs := xs.erase M) (hn.erase M) (fun x hx => by
      have h2 := (List.Nodup.mem_erase_iff hn).1 hx
      have h3 := h x h2.2
      have h4 := h2.1
      omega)
    have h5 : xs.length - 1 ≤ (xs.erase M).length := by
      rw [List.length_erase]
      split <;> omega
    omega
/-- what is known at the head of the work list's loop -/
structure Wk (w wr : World) (y : Nat) (l : List Itm) (P I T : Value) (SB sc sb LB lc lb fb M : Nat) (v : Value) (n : Nat) : Prop where
  go : ∃ bs F g, LenInv l bs F g ∧ cnt l g ≤ n ∧ bs.length = M ∧ BRow wr lb (.slice (some ⟨LB, 0, none⟩) M lc) bs ∧ IRow wr fb v (F.map fun (i : Nat) => (i : Int)) ∧ IRow wr sb (.slice (some ⟨SB, 0, none⟩) l.length sc) (szs l g)
  lay : wr.heap[y]? = some (.cells #[P, I, .slice (some ⟨SB, 0, none⟩) l.length sc, T] 57 (0, 0))
  sav : Sav (fun k => k = SB) w wr
theorem narrow_n {base LB lc L n : Nat} {bs : List Br} {w : World} (hn : bs.length = n) (HR : BRow w base (.slice (some ⟨LB, 0, none⟩) n lc) bs) (hM : n ≤ 40000) {b0 : Br} (HL : bs[L]? = some b0) (HBD : ∀ b ∈ bs, -4611686018427387904 ≤ b.room ∧ b.room ≤ 1024) :
    Calls Try.prog 79 #[.slice (some ⟨LB, 0, none⟩) n lc, .int .i64 L] w (Nar bs b0.at' L base LB lc w) := by
  subst hn
  exact narrow_any base LB lc L bs w HR hM b0 HL (List.getElem?_eq_some_iff.1 HL).1 HBD
theorem LenInv.bd {l : List Itm} {bs : List Br} {F : List Nat} {g : Nat → Bool} (h : LenInv l bs F g) (hM : bs.length ≤ 40000) : ∀ b ∈ bs, -4611686018427387904 ≤ b.room ∧ b.room ≤ 1024 := by
  intro b hb
  obtain ⟨i, hi⟩ := List.mem_iff_getElem?.1 hb
  have := h.lo i b hi
  omega
set_option maxRecDepth 100000 in
set_option maxHeartbeats 4000000 in
theorem lengthen_any (y b o ic PB pc TB SB sc sb : Nat) (l : List Itm) (w : World) (HL : Hid (LayB w y l b o ic PB pc TB (.slice (some ⟨SB, 0, none⟩) l.length sc))) (HSZ : Hid (IRow w sb (.slice (some ⟨SB, 0, none⟩) l.length sc) (szs l none')))
    (hlen : l.length ≤ 40000) (HR : Hid (allRight l)) (HT : Hid (∀ k, k < l.length → to l k < l.length)) (HTL : Hid (toLab l)) (hne : SB ≠ y) :
    Calls Try.prog 65 #[.pointer (some ⟨y, 0, none⟩)] w fun e w' => e = .returned (.tuple #[]) ∧ IRow w' sb (.slice (some ⟨SB, 0, none⟩) l.length sc) (szs l (Lb.fin l)) ∧ Sav (fun k => k = SB) w w' := by
  go_enter Try.func65, Try.ntmps65
  go_wp2_with fail
  refine (branches_any y b o ic PB pc TB (.slice (some ⟨SB, 0, none⟩) l.length sc) l _ HL hlen HR HT).mono ?_
  rintro e w1 ⟨lv, rfl, hbr, hb1⟩
  have HB1 := Lib.hid hb1
  have HL1 := Lib.hid (HL.out.both hb1)
  have HSZ1 : Hid (IRow w1 sb (.slice (some ⟨SB, 0, none⟩) l.length sc) (szs l none')) := ownsRow_sav HSZ.out (hb1.sav fun _ => False) (fun _ _ => id)
  have HIN := Lib.hid (LenInv.start HR.out hlen HT.out)
  have HBL := Lib.hid (brsTo_len l l.length)
  generalize brsTo l l.length = bs at hbr HIN HBL
  rcases hbr.shape with ⟨rfl, rfl⟩ | ⟨LB, lc, rfl, hlb, hLBs⟩
  · have hfin : none' = Lb.fin l := HIN.out.done
    have HRES : Hid (IRow w1 sb (.slice (some ⟨SB, 0, none⟩) l.length sc) (szs l (Lb.fin l))) := by rw [← hfin]; exact HSZ1.out
    clear hbr hb1 hfin
    go_wp2_with fail
    refine wp_loop_rounds 1 ?_
    rw [rounds_succ]
    go_wp2_with fail
    refine wp_loop_rounds 1 ?_
    rw [rounds_succ]
    go_wp2_with fail
    go_end0
    exact ⟨rfl, HRES.out, HB1.out.sav _⟩
  · have HBR := Lib.hid hbr
    clear hbr hb1
    have hM : bs.length ≤ 40000 := by have := HBL.out; omega
    go_wp2_with fail
    go_loopw [3, 11] (fun v i wr => ∃ k : Nat, k ≤ bs.length ∧ i = .int .i64 k ∧ Hid (Both w1 wr) ∧ Hid (IRow wr w1.heap.size v ((negTo bs k).map fun (i : Nat) => (i : Int)))) (fun _ i _ => bs.length - (intOf i).toNat)
    case atStart => exact ⟨0, by omega, rfl, Both.refl _, IRow.nil _ _⟩
    case round =>
      rename_i wr
      obtain ⟨k, hk, rfl, HB, HV⟩ := hrel
      by_cases hlt : k < bs.length
      · obtain ⟨bb, hbb⟩ : ∃ bb, bs[k]? = some bb := ⟨_, List.getElem?_eq_getElem hlt⟩
        have hrow : BRow wr w.heap.size (.slice (some ⟨LB, 0, none⟩) bs.length lc) bs := ownsRow_sav HBR.out (HB.out.sav fun _ => False) (fun _ _ => id)
        obtain ⟨c0, c1, c2, _, _⟩ := hrow.cells hbb
        have hng := negTo_succ hbb
        have HNG := Lib.hid hng
        have HNL := Lib.hid (negTo_len bs k)
        obtain ⟨ba, bt, br⟩ := bb
        simp only at c0 c1 c2
        clear hrow hng hbb
        by_cases hr : br < 0
        · have hng := HNG.out
          rw [if_pos hr] at hng
          have HNG2 := Lib.hid hng
          clear hng HNG
          go_wp2_with (at_builtin; refine wpList_irow_one rfl (.tmp 19) (.tmp 21) 31 Try.underlying31 rfl w1.heap.size u3 ((negTo bs k).map fun (i : Nat) => (i : Int)) rfl ((HV.out.alloc _).alloc _) _ k rfl (new_plus1 _ _ _ _ _) (by have := HNL.out; simp; omega) (by have := HB.out.1.size; simp; omega) ?_; intro v' w4 h1 h2 h3)
          have HB4 := Lib.hid (h2.both ((HB.out.alloc _ _).alloc _ _) (fun j hj => (HV.out.lt j hj).1))
          have HV4 : Hid (IRow w4 w1.heap.size v' ((negTo bs (k + 1)).map fun (i : Nat) => (i : Int))) := by rw [HNG2.out, List.map_append]; exact h1
          clear h1 h2 h3
          go_wp2_with fail
          go_roundw
          case rel => exact ⟨k + 1, hlt, by go_num, HB4.out, HV4.out⟩
          case measure => simp [intOf]; omega
        · have hng := HNG.out
          rw [if_neg hr] at hng
          have HNG2 := Lib.hid hng
          clear hng HNG
          go_wp2_with fail
          go_roundw
          case rel => exact ⟨k + 1, hlt, by go_num, HB.out.alloc _ _, by rw [HNG2.out]; exact HV.out.alloc _⟩
          case measure => simp [intOf]; omega
      · obtain rfl : k = bs.length := by omega
        have hW : Wk w wr y l (.slice (some ⟨PB, 0, none⟩) (l.length + 1) pc) (.slice (some ⟨b, o, none⟩) l.length ic) (.slice (some ⟨TB, 0, none⟩) l.length l.length) SB sc sb LB lc w.heap.size w1.heap.size bs.length u3 (cnt l none') := by
          have hb2 := HB1.out.trans HB.out
          exact ⟨⟨bs, _, none', HIN.out, Nat.le_refl _, rfl, ownsRow_sav HBR.out (HB.out.sav fun _ => False) (fun _ _ => id), HV.out, ownsRow_sav HSZ1.out (HB.out.sav fun _ => False) (fun _ _ => id)⟩, (HL.out.both hb2).lay, hb2.sav _⟩
        have HW := Lib.hid hW
        have hfb : w.heap.size ≤ w1.heap.size := HB1.out.1.size
        have hsb : SB < w.heap.size := (HSZ.out.lt SB rfl).2
        clear hW HV HB HBR HL1 HSZ1 HIN HB1 hlt hk
        generalize w1.heap.size = fb at HW hfb hLBs
        generalize bs.length = M at HW hM ⊢
        generalize cnt l none' = n0 at HW
        go_wp2_with fail
        go_loopg [3] n0 (fun n v wr => Hid (Wk w wr y l (.slice (some ⟨PB, 0, none⟩) (l.length + 1) pc) (.slice (some ⟨b, o, none⟩) l.length ic) (.slice (some ⟨TB, 0, none⟩) l.length l.length) SB sc sb LB lc w.heap.size fb M v n))
        case atStart => exact HW.out
        case round =>
          obtain ⟨bs2, F, g, hin, hcn, hbl, hrow, hfar, hsz⟩ := hrel.out.go
          rcases List.eq_nil_or_concat F with rfl | ⟨F', j, rfl⟩
          · obtain ⟨p, c, hv⟩ := hfar.shape
            rw [List.map_nil, List.length_nil] at hv
            subst hv
            obtain rfl := hin.done
            have HSZ2 := Lib.hid hsz
            have HSV := Lib.hid hrel.out.sav
            clear hin hrow hfar hsz hrel
            go_wp2_with fail
            go_end0
            exact ⟨rfl, HSZ2.out, HSV.out⟩
          · rw [List.concat_eq_append] at hin hfar
            have hvn : ∀ (v : Value), IRow wr fb v ((F' ++ [j]).map fun (i : Nat) => (i : Int)) → v ≠ .slice none 0 0 := fun v h c => by
              rcases h.2 with ⟨_, h0⟩ | ⟨g, cap, cur, h', _⟩
              · simp at h0
              · rw [c] at h'; cases h'
            obtain ⟨FB, fc, hv, hfb1, hfb2, hfat, _⟩ := hfar.form (hvn _ hfar)
            subst hv
            rw [List.map_append, List.map_cons, List.map_nil] at hfar hfat
            have hpop := hfar.pop
            have hfc := hfar.cap
            have hcj := hfat.2 (F'.map fun (i : Nat) => (i : Int)).length j (by rw [List.getElem?_append_right (Nat.le_refl _)]; simp)
            have hll : ((F'.map fun (i : Nat) => (i : Int)) ++ [(j : Int)]).length = F'.length + 1 := by simp
            have hll2 : (F'.map fun (i : Nat) => (i : Int)).length = F'.length := by simp
            rw [Nat.zero_add, hll2] at hcj
            rw [hll2] at hpop
            rw [List.length_map, List.length_append, List.length_singleton]
            obtain ⟨c0, hc0⟩ : ∃ c0, bs2[j]? = some c0 := ⟨_, List.getElem?_eq_getElem (hin.rng j (by simp))⟩
            obtain ⟨d0, d1, d2, dfr, _⟩ := hrow.cells hc0
            have hml : (F' ++ [j]).length ≤ bs2.length := nodup_len hin.nodup hin.rng
            rw [List.length_append, List.length_singleton, hbl] at hml
            have hst := hin.stat.br hc0
            have hjb : j < bs2.length := hin.rng j (by simp)
            obtain ⟨SB', sc', hv2, hs1, hs2, hsat, hsfr⟩ := hsz.form (by simp)
            obtain ⟨rfl, rfl⟩ : SB = SB' ∧ sc = sc' := by
              simp only [Value.slice.injEq, Option.some.injEq, Addr.mk.injEq, and_true] at hv2
              exact ⟨hv2.1, hv2.2.2⟩
            have hcs := hsat.2 c0.at' _ (szs_get hst.2)
            rw [Nat.zero_add] at hcs
            have hcf := hsfr c0.at'
            have y2 := cell_of_heap hrel.out.lay 2
            simp only [List.getElem?_toArray, List.getElem?_cons_zero, List.getElem?_cons_succ] at y2
            have hatl : (c0.at' : Int) < l.length := by have := hst.2; omega
            have hjM : (j : Int) < M := by omega
            have ly := lt_of_heap hrel.out.lay
            have lLB := (hrow.lt LB rfl).2
            obtain ⟨m, hm⟩ : ∃ m, F'.length = m := ⟨_, rfl⟩
            rw [hll] at hfc
            rw [hm] at hcj hpop hml hfc ⊢
            have HPOP := Lib.hid hpop
            have HROW := Lib.hid hrow
            have HSZ2 := Lib.hid hsz
            have HIN := Lib.hid hin
            have HC0 := Lib.hid hc0
            have HGK := Lib.hid hcn
            have HBL2 := Lib.hid hbl
            have HMF := Lib.hid hm
            have HSTA := Lib.hid hst
            clear hpop hrow hsz hin hc0 hcn hbl hm hst hfar hfat hvn hll hll2 hv2 hsat hsfr dfr
            go_upto_region 11 with (fail)
            have hkeep : ∀ w' : World, w'.cell? ⟨y, 2, none⟩ = wr.cell? ⟨y, 2, none⟩ → w'.cell? ⟨LB, j * 3, none⟩ = wr.cell? ⟨LB, j * 3, none⟩ → w'.cell? ⟨y, 2, none⟩ = some (.slice (some ⟨SB, 0, none⟩) l.length sc) ∧ w'.cell? ⟨LB, j * 3, none⟩ = some (.int .i64 c0.at') := fun w' h1 h2 => ⟨h1.trans y2, h2.trans d0⟩
            have HKEEP := Lib.hid hkeep
            have hyS : (⟨SB, c0.at', none⟩ : Addr) ≠ ⟨y, 2, none⟩ := fun e => hne (congrArg Addr.block e)
            have hLS : (⟨SB, c0.at', none⟩ : Addr) ≠ ⟨LB, j * 3, none⟩ := fun e => by have := congrArg Addr.block e; simp only at this; omega
            have HYS := Lib.hid hyS
            have HLS := Lib.hid hLS
            clear hkeep hyS hLS
            go_region_held3 (fun w' => w'.cell? ⟨y, 2, none⟩ = some (.slice (some ⟨SB, 0, none⟩) l.length sc) ∧ w'.cell? ⟨LB, j * 3, none⟩ = some (.int .i64 c0.at'))
              (first | exact HKEEP.out _ rfl rfl | exact HKEEP.out _ (World.cell?_setCell_other _ _ _ _ HYS.out) (World.cell?_setCell_other _ _ _ _ HLS.out)) (fail)
            have hs5 : Sav (fun k => k = SB) wr (wr.setCell ⟨SB, c0.at', none⟩ (.int .i64 2)).drew := (Sav.setCell (S := fun k => k = SB) (p := ⟨SB, c0.at', none⟩) (Sav.refl _ wr) (Or.inl rfl) _).drew
            have hrow5 : BRow (wr.setCell ⟨SB, c0.at', none⟩ (.int .i64 2)).drew w.heap.size (.slice (some ⟨LB, 0, none⟩) M lc) bs2 := ownsRow_sav HROW.out hs5 (fun k hk e => by have : LB = k := Option.some.inj hk; omega)
            have hpop5 : IRow (wr.setCell ⟨SB, c0.at', none⟩ (.int .i64 2)).drew fb (.slice (some ⟨FB, 0, none⟩) (F'.map fun (i : Nat) => (i : Int)).length fc) (F'.map fun (i : Nat) => (i : Int)) := by
              refine ownsRow_sav ?_ hs5 (fun k hk e => by have : FB = k := Option.some.inj hk; omega)
              rw [List.length_map, HMF.out]
              have := HPOP.out
              unfold IRow at this
              rw [List.length_map, HMF.out] at this
              exact this
            have hgc : g c0.at' = false := HIN.out.disj j c0 (by simp) HC0.out
            have hsz5 : IRow (wr.setCell ⟨SB, c0.at', none⟩ (.int .i64 2)).drew sb (.slice (some ⟨SB, 0, none⟩) l.length sc) (szs l (with1 g c0.at')) := by
              rw [← szs_with1 HSTA.out.1 hgc HSTA.out.2]
              exact ownsRow_sav (HSZ2.out.put c0.at' 2) (((Both.refl _).drew).sav fun _ => False) (fun _ _ => id)
            have hlay5 : (wr.setCell ⟨SB, c0.at', none⟩ (.int .i64 2)).drew.heap[y]? = some (.cells #[.slice (some ⟨PB, 0, none⟩) (l.length + 1) pc, .slice (some ⟨b, o, none⟩) l.length ic, .slice (some ⟨SB, 0, none⟩) l.length sc, .slice (some ⟨TB, 0, none⟩) l.length l.length] 57 (0, 0)) := (hs5.block y ly (fun e => hne e.symm)).trans hrel.out.lay
            have HS5 := Lib.hid (hrel.out.sav.trans hs5)
            have HROW5 := Lib.hid hrow5
            have HPOP5 := Lib.hid hpop5
            have HSZ5 := Lib.hid hsz5
            have HLAY5 := Lib.hid hlay5
            clear hs5 hrow5 hpop5 hsz5 hlay5 hgc HKEEP HYS HLS HPOP HROW HSZ2 d0 d1 d2 hcs hcf y2 hcj
            generalize (wr.setCell ⟨SB, c0.at', none⟩ (.int .i64 2)).drew = W5 at HS5 HROW5 HPOP5 HSZ5 HLAY5 ⊢
            go_wp2_with fail
            refine (narrow_n HBL2.out HROW5.out hM HC0.out (HIN.out.bd (by have := HBL2.out; omega))).mono ?_
            rintro e w6 ⟨k6, v2, rfl, hnw, hk6⟩
            obtain ⟨bs3, out, hr6, ho6, hto6, hol6⟩ := hnw.go
            obtain ⟨hin7, hcn7⟩ := HIN.out.step HC0.out hto6 hk6 HTL.out
            have hlB6 : LB < W5.heap.size := (HROW5.out.lt LB rfl).2
            have hpop6 : IRow w6 fb (.slice (some ⟨FB, 0, none⟩) (F'.map fun (i : Nat) => (i : Int)).length fc) (F'.map fun (i : Nat) => (i : Int)) := ownsRow_sav HPOP5.out hnw.sav (fun k hk e => by have : FB = k := Option.some.inj hk; omega)
            have hol : out.length ≤ 40000 := by
              have h1 := nodup_len (M := M) hto6.nodup (fun x hx => by
                obtain ⟨bx, hbx, _⟩ := (hto6.mem x).1 hx
                have h2 := (List.getElem?_eq_some_iff.1 hbx).1
                have h3 := HBL2.out
                omega)
              omega
            have hw6 : fb ≤ w6.heap.size := by have h1 := (hpop6.lt FB rfl).2; omega
            obtain ⟨v7, w7, hrun, hi7, hs7, hv7⟩ := irow_many hpop6 (by simp) 31 31 Try.underlying31 ho6 (by rw [List.length_map, List.length_map, HMF.out]; omega) hw6
            rw [List.length_map, HMF.out] at hrun
            have HRUN := Lib.hid hrun
            have HW7 : Hid (Wk w w7 y l (.slice (some ⟨PB, 0, none⟩) (l.length + 1) pc) (.slice (some ⟨b, o, none⟩) l.length ic) (.slice (some ⟨TB, 0, none⟩) l.length l.length) SB sc sb LB lc w.heap.size fb M v7 (cnt l (with1 g c0.at'))) := by
              have hFB : ∀ k, (Value.slice (some ⟨FB, 0, none⟩) (F'.map fun (i : Nat) => (i : Int)).length fc).ownBlock = some k → k = FB := fun k hk => (Option.some.inj hk).symm
              refine ⟨⟨bs3, F' ++ out, _, hin7, Nat.le_refl _, ?_, ?_, ?_, ?_⟩, ?_, ?_⟩
              · rw [hto6.len]; exact HBL2.out
              · rw [HBL2.out] at hr6
                exact ownsRow_sav hr6 hs7 (fun k hk e => by have h1 : LB = k := Option.some.inj hk; have h2 := hFB k e; omega)
              · rw [List.map_append]; exact hi7
              · exact ownsRow_sav (ownsRow_sav HSZ5.out hnw.sav (fun k hk e => by have h1 : SB = k := Option.some.inj hk; omega)) hs7 (fun k hk e => by have h1 : SB = k := Option.some.inj hk; have h2 := hFB k e; omega)
              · have ly5 := lt_of_heap HLAY5.out
                have l1 := (hnw.sav.block y ly5 (fun e => by have := (lt_of_heap HL.out.lay); omega)).trans HLAY5.out
                exact (hs7.block y (lt_of_heap l1) (fun e => by have h2 := hFB y e; have := (lt_of_heap HL.out.lay); omega)).trans l1
              · exact (HS5.out.then hnw.sav (fun k e => Or.inr (by omega))).then hs7 (fun k e => Or.inr (by have h2 := hFB k e; omega))
            have HCN := Lib.hid hcn7
            clear hrun hi7 hs7 hv7 hpop6 hnw hr6 ho6 hto6 hin7 hcn7
            go_wp2_with (at_builtin; refine wpList_app rfl (.tmp 48) (.tmp 51) 31 rfl _ _ _ rfl rfl HRUN.out ?_)
            go_roundg (cnt l (with1 g c0.at'))
            case rel => exact HW7.out
            case measure => have h1 := HCN.out; have h2 := HGK.out; omega
end Go.Proofs.Ytjjbfeoidceiiaa
