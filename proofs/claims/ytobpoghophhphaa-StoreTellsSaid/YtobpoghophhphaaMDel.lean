/- slices.Delete of one entry. -/
import Derived.Test.YtobpoghophhphaaMRes
import Derived.Lib.SliceRun
import Derived.Laws.IdiomCopy
namespace Go.Proofs.Ytobpoghophhphaa
open Go.RowKit Mm
set_option linter.unusedVariables false
set_option linter.unusedSimpArgs false
def wr (cs : Array Value) : Nat → List Value → Array Value
  | _, [] => cs
  | o, v :: r => wr (cs.setIfInBounds o v) (o + 1) r
theorem wr_size (vs : List Value) : ∀ (cs : Array Value) (o : Nat), (wr cs o vs).size = cs.size := by
  induction vs with
  | nil => intro cs o; rfl
  | cons v r ih => intro cs o; show (wr _ _ r).size = _; rw [ih, Array.size_setIfInBounds]
theorem wr_get (vs : List Value) : ∀ (cs : Array Value) (o k : Nat), o + vs.length ≤ cs.size → (wr cs o vs)[k]? = if o ≤ k ∧ k < o + vs.length then vs[k - o]? else cs[k]? := by
  induction vs with
  | nil =>
    intro cs o k h
    rw [if_neg (by simp)]
    rfl
  | cons v r ih =>
    intro cs o k h
    rw [List.length_cons] at h
    show (wr (cs.setIfInBounds o v) (o + 1) r)[k]? = _
    rw [ih _ _ _ (by rw [Array.size_setIfInBounds]; omega), Array.getElem?_setIfInBounds, List.length_cons]
    by_cases h1 : k = o
    · subst h1
      rw [if_neg (by omega), if_pos rfl, if_pos (by omega), if_pos (by omega), Nat.sub_self]
      rfl
    · by_cases h2 : o + 1 ≤ k ∧ k < o + 1 + r.length
      · rw [if_pos h2, if_pos (by omega), show k - o = (k - (o + 1)) + 1 by omega]
        rfl
      · rw [if_neg h2, if_neg (fun c => h1 c.symm), if_neg (by omega)]
theorem heap_setCells {w : World} {g : Nat} {t : TypeId} {fr : Nat × Nat} (vs : List Value) : ∀ {w : World} {cs : Array Value} (o : Nat), w.heap[g]? = some (.cells cs t fr) → (w.setCells g o vs).heap[g]? = some (.cells (wr cs o vs) t fr) := by
  induction vs with
  | nil => intro w cs o h; exact h
  | cons v r ih => intro w cs o h; exact ih (o + 1) (heap_set h o v)
theorem Svg.setCells (g : Nat) (vs : List Value) : ∀ (w : World) (o : Nat), Svg g w (w.setCells g o vs) := by
  induction vs with
  | nil => intro w o; exact Svg.refl _ _
  | cons v r ih => intro w o; exact (Svg.set g o w v).trans (ih _ _)
theorem encE_len (x : Int × Int) : (encE x).length = 2 := rfl
/-- an entry out of a row -/
theorem del_row {w : World} {base g c : Nat} {l : List (Int × Int)} (h : ERow encE 48 2 w base (.slice (some ⟨g, 0, none⟩) l.length c) l) {i : Nat} (hi : i < l.length) :
    ERow encE 48 2 ((w.setCells g (i * 2) ((l.drop (i + 1)).flatMap encE)).setCells g ((l.length - 1) * 2) [.int .i64 0, .int .i64 0]) base (.slice (some ⟨g, 0, none⟩) (l.length - 1) c) (l.eraseIdx i) ∧
    Svg g w ((w.setCells g (i * 2) ((l.drop (i + 1)).flatMap encE)).setCells g ((l.length - 1) * 2) [.int .i64 0, .int .i64 0]) := by
  refine ⟨?_, (Svg.setCells g _ _ _).trans (Svg.setCells g _ _ _)⟩
  have hel : (l.eraseIdx i).length = l.length - 1 := List.length_eraseIdx_of_lt hi
  refine ⟨by rw [flat_len encE_len], ?_⟩
  rcases h.2 with ⟨h1, hx⟩ | ⟨g', cap, cur, h2, hb, hg, hnc, hcm, hcs, htake⟩
  · cases h1
  · injection h2 with h2 h3 h4
    injection h2 with h2
    injection h2 with h2
    subst h2 h4
    have hdl : ((l.drop (i + 1)).flatMap encE).length = (l.length - (i + 1)) * 2 := by rw [flat_len encE_len, List.length_drop]
    have hg2 := heap_setCells (w := w) [.int .i64 0, .int .i64 0] ((l.length - 1) * 2) (heap_setCells (w := w) ((l.drop (i + 1)).flatMap encE) (i * 2) hg)
    refine .inr ⟨g, c, _, by rw [hel], hb, hg2, by rw [hel]; omega, hcm, by rw [wr_size, wr_size]; exact hcs, ?_⟩
    rw [hel]
    have hsz : l.length * 2 ≤ cur.size := by rw [hcs]; omega
    have hcur : ∀ k, k < l.length * 2 → cur[k]? = (l.flatMap encE)[k]? := by
      intro k hk
      rw [← htake, List.getElem?_take_of_lt hk, Array.getElem?_toList]
    have hft : ∀ (a : List (Int × Int)), (a.flatMap encE).length = a.length * 2 := fun a => flat_len encE_len a
    apply List.ext_getElem?
    intro k
    by_cases hk : k < (l.length - 1) * 2
    · rw [List.getElem?_take_of_lt hk, Array.getElem?_toList, wr_get _ _ _ _ (by rw [wr_size]; show _ + 2 ≤ _; omega), if_neg (by omega), wr_get _ _ _ _ (by rw [hdl]; omega), hdl, List.eraseIdx_eq_take_drop_succ, List.flatMap_append]
      by_cases hk2 : k < i * 2
      · rw [if_neg (by omega), hcur k (by omega), List.getElem?_append_left (by rw [hft, List.length_take]; omega)]
        have e : l = l.take i ++ l.drop i := (List.take_append_drop i l).symm
        have e2 : (l.flatMap encE)[k]? = ((l.take i ++ l.drop i).flatMap encE)[k]? := by rw [← e]
        rw [e2, List.flatMap_append, List.getElem?_append_left (by rw [hft, List.length_take]; omega)]
      · rw [if_pos (by omega), List.getElem?_append_right (by rw [hft, List.length_take]; omega), hft, List.length_take, Nat.min_eq_left (by omega)]
    · rw [List.getElem?_eq_none (by rw [List.length_take]; omega), List.getElem?_eq_none (by rw [hft, hel]; omega)]
theorem zeroEnt (w : World) : (zeroValue 48).run Try.prog w = .ok (.agg #[.int .i64 0, .int .i64 0]) w := Try.zeroValue48 w
theorem clear2 (w : World) (ty : TypeId) (b o c : Nat) (hc : ∀ j, j < 2 → (w.cell? ⟨b, o + j, none⟩).isSome = true) (hf : ∀ j, j < 2 → w.frozen? ⟨b, o + j, none⟩ = false) :
    (Builtin.clear_ #[46] ty #[.slice (some ⟨b, o, none⟩) 1 c]).run Try.prog w = .ok (.tuple #[]) (w.setCells b o [.int .i64 0, .int .i64 0]) := by
  have hzc : (Builtin.zeroCells (Value.agg #[.int .i64 0, .int .i64 0]).cells 1).toList = [.int .i64 0, .int .i64 0] := by
    simp [Builtin.zeroCells, Value.cells]
    rfl
  have hst := run_storeCells_cells (P := Try.prog) b o [.int .i64 0, .int .i64 0] 0 w (by simpa using hc) (by simpa using hf) (by intro v hv; rcases List.mem_cons.1 hv with rfl | hv; rfl; rw [List.mem_singleton.1 hv]; rfl)
  simp only [Nat.add_zero] at hst
  simp [Builtin.clear_, run_underlying Try.underlying46, zeroEnt, hzc, hst]
set_option maxRecDepth 100000 in
set_option maxHeartbeats 2000000 in
theorem delete_any {w : World} {base g c : Nat} {l : List (Int × Int)} (h : ERow encE 48 2 w base (.slice (some ⟨g, 0, none⟩) l.length c) l) {i : Nat} (hi : i < l.length) (h8 : l.length ≤ 8) :
    Calls Try.prog 38 #[.slice (some ⟨g, 0, none⟩) l.length c, .int .i64 (i : Int), .int .i64 ((i : Int) + 1)] w fun e w' => e = .returned (.slice (some ⟨g, 0, none⟩) (l.length - 1 : Nat) c) ∧ ERow encE 48 2 w' base (.slice (some ⟨g, 0, none⟩) (l.length - 1) c) (l.eraseIdx i) ∧ Svg g w w' := by
  obtain ⟨ie, ze, hie, hze, hsze, hbye, hzse⟩ := entTy.info
  have hc : l.length ≤ c := ERow.c (s := ⟨some ⟨g, 0, none⟩, l.length, c⟩) h
  obtain ⟨csg, hg⟩ : ∃ csg, w.heap[g]? = some (.cells csg 48 (0, 0)) := (h.blk rfl).2
  have hcs : csg.size = c * 2 := by
    rcases h.2 with ⟨h1, hx⟩ | ⟨g', cap, cur, h2, hb, hg', hnc, hcm, hcs, htake⟩
    · cases h1
    · injection h2 with h2 h3 h4
      injection h2 with h2
      injection h2 with h2
      subst h2 h4
      rw [hg] at hg'
      injection hg' with hg'
      injection hg' with hg' _ _
      rw [hg']; exact hcs
  have hdel := del_row (w := w.drew) (h.bel (Bel.refl w).drew) hi
  have hcell : ∀ k, k < c * 2 → (w.cell? ⟨g, k, none⟩).isSome = true := fun k hk => by
    rw [cell_of_heap hg, Array.getElem?_eq_getElem (by omega)]
    rfl
  obtain ⟨news, hnews⟩ : ∃ news, (l.drop (i + 1)).flatMap encE = news := ⟨_, rfl⟩
  have hnl : news.length = (l.length - (i + 1)) * 2 := by rw [← hnews, flat_len encE_len, List.length_drop]
  have hn1 : ∀ u ∈ news, u.oneCell' = true := by rw [← hnews]; exact flat_one (fun x u hu => by rcases List.mem_cons.1 hu with rfl | h; rfl; rw [List.mem_singleton.1 h]; rfl) _
  obtain ⟨A, hA, hsrc⟩ : ∃ A : Addr, (if c = i + 1 then some (⟨g, 0, none⟩ : Addr) else some ⟨g, (i + 1) * 2, none⟩) = some A ∧ (∀ t u, news[t]? = some u → w.drew.cell? (A.add t) = some u) := by
    by_cases hci : c = i + 1
    · refine ⟨⟨g, 0, none⟩, by simp [hci], fun t u hu => ?_⟩
      have := (List.getElem?_eq_some_iff.1 hu).1
      omega
    · refine ⟨⟨g, (i + 1) * 2, none⟩, by simp [hci], ?_⟩
      rw [← hnews]
      refine enc_news encE_len (fun j x hj k v hv => ?_)
      rw [List.getElem?_drop] at hj
      obtain ⟨g', cs, e1, _, _, _, _, _, _, h8'⟩ := ERow.at (s := ⟨some ⟨g, 0, none⟩, l.length, c⟩) encE_len h hj
      injection e1 with e1
      injection e1 with e1
      subst e1
      have := h8' k v hv
      rw [show (i + 1 + j) * 2 + k = (i + 1) * 2 + j * 2 + k by omega] at this
      exact this
  have hspare : ∀ j, j < news.length → (w.drew.cell? ⟨g, 0 + i * 2 + j, none⟩).isSome = true ∧ w.drew.frozen? ⟨g, 0 + i * 2 + j, none⟩ = false := fun j hj => ⟨hcell _ (by omega), frozen_of_heap hg _⟩
  have hg1 : (w.drew.setCells g (i * 2) news).heap[g]? = some (.cells (wr csg (i * 2) news) 48 (0, 0)) := heap_setCells (w := w.drew) news (i * 2) hg
  have hcl : ∀ ty, (Builtin.clear_ #[46] ty #[.slice (some ⟨g, (l.length - 1) * 2, none⟩) 1 (c - (l.length - 1))]).run Try.prog (w.drew.setCells g (i * 2) news) = .ok (.tuple #[]) ((w.drew.setCells g (i * 2) news).setCells g ((l.length - 1) * 2) [.int .i64 0, .int .i64 0]) := fun ty =>
    clear2 _ ty g _ _ (fun j hj => by rw [cell_of_heap hg1, Array.getElem?_eq_getElem (by rw [wr_size]; omega)]; rfl) (fun j hj => frozen_of_heap hg1 _)
  rw [hnews] at hdel
  have HD := Lib.hid hdel
  have HS := Lib.hid hsrc
  have HP := Lib.hid hspare
  have HNL := Lib.hid hnl
  have HN1 := Lib.hid hn1
  have hib : (i : Int) + 1 ≤ l.length := by omega
  have hne : ((i : Int) == (i : Int) + 1) = false := beq_eq_false_iff_ne.2 (by omega)
  have hic : (i : Int) + 1 ≤ c := by omega
  have hic0 : i ≤ c := by omega
  have hic1 : i + 1 ≤ c := by omega
  have hiz : (0 : Int) ≤ (i : Int) + 1 := by omega
  generalize l.length = n at *
  clear hdel hsrc hspare hnl hn1 hcell hg1 hg hcs h hnews
  go_enter Try.func38, Try.ntmps38
  go_wp2_with fail
  go_region_law (refine step_append_room rfl (.tmp 22) (.tmp 25) 46 rfl 48 ie 2 Try.underlying46 hie hsze g 0 i c (by simp [Act.eval, Act.put]) A (n - (i + 1)) (c - (i + 1)) news (by simp [Act.eval, Act.put]; first | done | exact hA | (try rw [← hA]; simp; try omega)) HNL.out HS.out HN1.out (by omega) HP.out ?_)
  have e1 : i + (n - (i + 1)) = n - 1 := by omega
  have e2 : n - (n - 1) = 1 := by omega
  have e3 : ((n - 1 : Nat) : Int) ≤ (n : Int) := by omega
  have e4 : n - 1 ≤ n := by omega
  have e5 : ¬ c = n - 1 := by omega
  have HDD := HD
  simp only [Nat.zero_add, e1]
  clear HD HS HP HNL HN1 hA
  go_wp2
  go_ret
  exact ⟨rfl, HDD.out.1, ((Bel.refl w).drew.svg g).trans HDD.out.2⟩
theorem delete_lit {w : World} {base g c : Nat} {l : List (Int × Int)} {i : Nat} {j : Int} (hj : j = (i : Int) + 1) (h : ERow encE 48 2 w base (.slice (some ⟨g, 0, none⟩) l.length c) l) (hi : i < l.length) (h8 : l.length ≤ 8) :
    Calls Try.prog 38 #[.slice (some ⟨g, 0, none⟩) l.length c, .int .i64 (i : Int), .int .i64 j] w fun e w' => e = .returned (.slice (some ⟨g, 0, none⟩) (l.length - 1 : Nat) c) ∧ ERow encE 48 2 w' base (.slice (some ⟨g, 0, none⟩) (l.length - 1) c) (l.eraseIdx i) ∧ Svg g w w' := by
  subst hj
  exact delete_any h hi h8
end Go.Proofs.Ytobpoghophhphaa
