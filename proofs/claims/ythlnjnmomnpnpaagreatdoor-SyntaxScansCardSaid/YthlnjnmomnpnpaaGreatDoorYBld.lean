/- A strings.Builder that lies ahead in a block of three cells: package syntax's printer. -/
import Derived.Test.YthlnjnmomnpnpaaGreatDoorYBase
import Derived.Lib.Builder
import Derived.Lib.AppendStr
import Derived.Lib.UnsafeStr
import Derived.Lib.Slices
import Derived.Lib.Strings
import Derived.Lib.Walk
import Derived.Shelf.RegionOpenPlain
import Derived.Laws.Externs
import Derived.Laws.IdiomCopy
namespace Go.Proofs.YthlnjnmomnpnpaaGreatDoor
open Go.RowKit Tk Sy
set_option linter.unusedVariables false
set_option linter.unusedSimpArgs false
theorem info_byte : ∃ i : TypeInfo, Tryz.prog.info? 5 = some i ∧ i.zero = some (.int .u8 0) ∧ i.size = 1 ∧ i.bytes = 1 := ⟨(Tryz.prog.info? 5).get (by kernel_rfl), by kernel_rfl, by kernel_rfl, by kernel_rfl, by kernel_rfl⟩
/-- the printer: a builder of these bytes, and a count of tabs -/
def PrAt (B b : Nat) (p : Value) (bs : List Value) (k : Int) (w : World) : Prop :=
  B ≤ b ∧ ∃ v, w.heap[b]? = some (.cells #[p, v, .int .i64 k] 74 (0, 0)) ∧ w.ownsRow B 5 1 v bs.length bs ∧ v.ownBlock ≠ some b
theorem PrAt.cells {B b : Nat} {p : Value} {bs : List Value} {k : Int} {w : World} (h : PrAt B b p bs k w) : w.cell? ⟨b, 0, none⟩ = some p ∧ w.cell? ⟨b, 2, none⟩ = some (.int .i64 k) ∧ b < w.heap.size ∧ w.shape? b = some (74, 3) ∧ w.frozen? ⟨b, 0, none⟩ = false := by
  obtain ⟨_, v, hb, _⟩ := h
  refine ⟨cell_of_heap hb 0, cell_of_heap hb 2, lt_of_heap hb, ?_, frozen_of_heap hb 0⟩
  simp [World.shape?, hb]
def IsPr (B b : Nat) (bs : List Value) (k : Int) (w : World) : Prop := PrAt B b (.pointer none) bs k w ∨ PrAt B b (.pointer (some ⟨b, 0, none⟩)) bs k w
theorem PrAt.put {B b : Nat} {p v v' : Value} {bs' : List Value} {k : Int} {w : World} (hB : B ≤ b) (hb : w.heap[b]? = some (.cells #[p, v, .int .i64 k] 74 (0, 0))) (hown : w.ownsRow B 5 1 v' bs'.length bs') :
    PrAt B b p bs' k (w.setCell ⟨b, 1, none⟩ v') := by
  have hne := Lib.ownBlock_ne hown hb (by decide)
  refine ⟨hB, v', ?_, ?_, hne⟩
  · simp [World.setCell, Array.getElem?_modify, hb]
  · exact hown.kept (row := some b) ⟨rfl, rfl, rfl, by simp [World.setCell], fun k _ hk => Below.heap_setCell _ _ _ _ (fun e => hk (by simp [e]))⟩ (Or.inr hne)
theorem PrAt.used {B b : Nat} {p : Value} {bs : List Value} {k : Int} {w : World} (h : PrAt B b p bs k w) (q : Value) : PrAt B b q bs k (w.setCell ⟨b, 0, none⟩ q) := by
  obtain ⟨hB, v, hb, hown, hne⟩ := h
  refine ⟨hB, v, ?_, ?_, hne⟩
  · simp [World.setCell, Array.getElem?_modify, hb]
  · exact hown.kept (row := some b) ⟨rfl, rfl, rfl, by simp [World.setCell], fun k _ hk => Below.heap_setCell _ _ _ _ (fun e => hk (by simp [e]))⟩ (Or.inr hne)
theorem PrAt.tabs {B b : Nat} {p : Value} {bs : List Value} {k : Int} {w : World} (h : PrAt B b p bs k w) (k' : Int) : PrAt B b p bs k' (w.setCell ⟨b, 2, none⟩ (.int .i64 k')) := by
  obtain ⟨hB, v, hb, hown, hne⟩ := h
  refine ⟨hB, v, ?_, ?_, hne⟩
  · simp [World.setCell, Array.getElem?_modify, hb]
  · exact hown.kept (row := some b) ⟨rfl, rfl, rfl, by simp [World.setCell], fun k _ hk => Below.heap_setCell _ _ _ _ (fun e => hk (by simp [e]))⟩ (Or.inr hne)
/-- a world in which only the printer's block and rows of bytes may have turned -/
def isBy (o : Option Obj) : Prop := ∃ cs fr, o = some (.cells cs 5 fr)
structure Pv (b : Nat) (w w' : World) : Prop where
  size : w.heap.size ≤ w'.heap.size
  block : ∀ k, k < w.heap.size → k ≠ b → ¬ isBy w.heap[k]? → w'.heap[k]? = w.heap[k]?
theorem Pv.refl (b : Nat) (w : World) : Pv b w w := ⟨Nat.le_refl _, fun _ _ _ _ => rfl⟩
theorem Pv.trans {b : Nat} {x y z : World} (h : Pv b x y) (k : Pv b y z) : Pv b x z :=
  ⟨Nat.le_trans h.size k.size, fun j hj hb hn => by
    have e := h.block j hj hb hn
    exact (k.block j (Nat.lt_of_lt_of_le hj h.size) hb (by rw [e]; exact hn)).trans e⟩
theorem Bel.pv {w w' : World} (h : Bel w w') (b : Nat) : Pv b w w' := ⟨h.size, fun k hk _ _ => h.block k hk⟩
theorem Pv.set (b i : Nat) (w : World) (v : Value) : Pv b w (w.setCell ⟨b, i, none⟩ v) := ⟨by simp [World.setCell], fun k _ hb _ => Below.heap_setCell _ _ _ _ hb⟩
theorem Pv.grown {B n : Nat} {b : Nat} {w w' : World} {v : Value} {xs : List Value} (hown : w.ownsRow B 5 1 v n xs) (hg : w.grownBy w' v.ownBlock) : Pv b w w' :=
  ⟨hg.size, fun k hk _ hn => hg.block k hk (fun e => hn (by
    rcases hown.2 with ⟨rfl, _⟩ | ⟨g, cap, cur, rfl, _, hgg, _⟩
    · simp [Value.ownBlock] at e
    · have : k = g := by simpa [Value.ownBlock] using e
      subst this
      exact ⟨cur, _, hgg⟩))⟩
theorem Pv.stays {b k : Nat} {w w' : World} (h : Pv b w w') {cs : Array Value} {t : TypeId} {fr : Nat × Nat} (hk : w.heap[k]? = some (.cells cs t fr)) (hb : k ≠ b) (ht : t ≠ 5) : w'.heap[k]? = some (.cells cs t fr) :=
  (h.block k (lt_of_heap hk) hb (fun hh => by
    obtain ⟨c, f, e⟩ := hh
    rw [hk] at e
    injection e with e
    injection e with _ e2 _
    exact ht e2)).trans hk
theorem size_bld : ∃ j : TypeInfo, Tryz.prog.info? 72 = some j ∧ j.size = 2 := ⟨(Tryz.prog.info? 72).get (by kernel_rfl), by kernel_rfl, by kernel_rfl⟩
set_option maxHeartbeats 1000000 in
set_option maxRecDepth 100000 in
theorem copyCheck_used (b : Nat) (w : World) (h0 : w.cell? ⟨b, 0, none⟩ = some (.pointer (some ⟨b, 0, none⟩))) :
    Calls Tryz.prog 116 #[.pointer (some ⟨b, 0, none⟩)] w fun e w' => e = .returned (.tuple #[]) ∧ w' = w := by
  obtain ⟨j, hj, _⟩ := size_bld
  go_enter Tryz.func116, Tryz.ntmps116
  go_wp2
  rw [Lib.run_neq_ptr_same w _ Tryz.underlying69 hj]
  go_wp2
  go_end0
  exact ⟨rfl, rfl⟩
set_option maxHeartbeats 1000000 in
set_option maxRecDepth 100000 in
theorem copyCheck_fresh (b : Nat) (w : World) (h0 : w.cell? ⟨b, 0, none⟩ = some (.pointer none)) (hsh : w.shape? b = some (74, 3)) (hfz : w.frozen? ⟨b, 0, none⟩ = false) :
    Calls Tryz.prog 116 #[.pointer (some ⟨b, 0, none⟩)] w fun e w' => e = .returned (.tuple #[]) ∧ w' = w.setCell ⟨b, 0, none⟩ (.pointer (some ⟨b, 0, none⟩)) := by
  obtain ⟨j, hj, hjs⟩ := size_bld
  go_enter Tryz.func116, Tryz.ntmps116
  go_wp2
  rw [Lib.run_to_unsafe w ⟨b, 0, none⟩ Tryz.underlying69 Tryz.underlying150 hj (by rw [hjs]; decide) hsh (Nat.zero_lt_succ 2)]
  simp only [Result.andThen]
  rw [Oper.upon_value]
  go_wp2
  rw [run_callFunc_extern Tryz.func124 (by kernel_rfl) (by kernel_rfl) (by kernel_rfl) (e := Extern.AbiNoEscape.same) (by kernel_rfl)]
  rw [Lib.run_noEscape]
  simp only [Result.andThen]
  rw [Oper.upon_value]
  go_wp2
  rw [Lib.run_from_unsafe w ⟨b, 0, none⟩ Tryz.underlying150 Tryz.underlying69 hj hsh (by kernel_rfl)]
  simp only [Result.andThen]
  rw [Oper.upon_value]
  go_wp2
  go_end0
  exact ⟨rfl, rfl⟩
theorem copyCheck_any (B b : Nat) (bs : List Value) (k : Int) (w : World) (h : IsPr B b bs k w) :
    Calls Tryz.prog 116 #[.pointer (some ⟨b, 0, none⟩)] w fun e w' => e = .returned (.tuple #[]) ∧ PrAt B b (.pointer (some ⟨b, 0, none⟩)) bs k w' ∧ Below B w w' ∧ Pv b w w' := by
  rcases h with h | h
  · obtain ⟨c0, _, _, hsh, hf⟩ := h.cells
    refine (copyCheck_fresh b w c0 hsh hf).mono ?_
    rintro e w' ⟨rfl, rfl⟩
    exact ⟨rfl, h.used _, (Below.refl B w).setCell (p := ⟨b, 0, none⟩) h.1 _, Pv.set b 0 w _⟩
  · obtain ⟨c0, _⟩ := h.cells
    refine (copyCheck_used b w c0).mono ?_
    rintro e w' ⟨rfl, rfl⟩
    exact ⟨rfl, h, Below.refl B _, Pv.refl _ _⟩
set_option maxHeartbeats 2000000 in
set_option maxRecDepth 100000 in
theorem writeByte_pr (B b : Nat) (bs : List Value) (c k : Int) (w : World) (h : IsPr B b bs k w) (hlen : bs.length + 1 ≤ 140737488355328) (hBw : B ≤ w.heap.size) :
    Calls Tryz.prog 93 #[.pointer (some ⟨b, 0, none⟩), .int .u8 c] w fun e w' => e = .returned .nilIface ∧ PrAt B b (.pointer (some ⟨b, 0, none⟩)) (bs ++ [.int .u8 c]) k w' ∧ Below B w w' ∧ Pv b w w' := by
  obtain ⟨i0, hi, hz0, hz1, hz2⟩ := info_byte
  go_enter Tryz.func93, Tryz.ntmps93
  go_wp2_with (go_at_call 116; refine (copyCheck_any B b bs k _ h).mono ?_)
  rintro e w1 ⟨rfl, h1, hb1, hp1⟩
  obtain ⟨hB, v, hbk, hown, hne⟩ := h1
  have c0 : w1.cell? ⟨b, 0, none⟩ = some (.pointer (some ⟨b, 0, none⟩)) := cell_of_heap hbk 0
  have c1 : w1.cell? ⟨b, 1, none⟩ = some v := cell_of_heap hbk 1
  go_wp2_with (at_builtin; refine wpList_append_own _ rfl _ _ 70 rfl B 5 i0 (.int .u8 0) 1 1 Tryz.underlying70 hi hz0 hz1 hz2 rfl (by decide) _ _ _ rfl (hown.alloc _) ⟨w1.heap.size, 0, none⟩ 1 1 [.int .u8 c] rfl rfl ?c1 ?c2 ?c3 ?c4 ?c5 ?_)
  case c1 =>
    intro j u hj
    match j, hj with
    | 0, hj => simp at hj; subst hj; simp [Addr.add]
  case c2 => intro u hu; simp at hu; subst hu; rfl
  case c3 => unfold maxLen; omega
  case c4 => omega
  case c5 => have := hb1.size; simp; omega
  intro v' w2 hown' hgrow _
  have hlt : b < w1.heap.size := lt_of_heap hbk
  have hb2 : w2.heap[b]? = some (.cells #[.pointer (some ⟨b, 0, none⟩), v, .int .i64 k] 74 (0, 0)) := by
    rw [hgrow.block b (by simp; omega) (fun e => hne e.symm), Lib.alloc_old w1 _ b hlt]
    exact hbk
  have d0 : w2.cell? ⟨b, 0, none⟩ = some (.pointer (some ⟨b, 0, none⟩)) := cell_of_heap hb2 0
  have d1 : w2.cell? ⟨b, 1, none⟩ = some v := cell_of_heap hb2 1
  have f1 : w2.frozen? ⟨b, 1, none⟩ = false := frozen_of_heap hb2 1
  obtain ⟨g, cap, rfl⟩ : ∃ g cap, v' = .slice (some ⟨g, 0, none⟩) (bs.length + 1) cap := by
    rcases hown'.2 with ⟨_, h0⟩ | ⟨g, cap, cur, hv, _⟩
    · omega
    · exact ⟨g, cap, hv⟩
  go_wp2
  go_ret
  refine ⟨rfl, ?_, ?_, ?_⟩
  · exact PrAt.put hB hb2 (bs' := bs ++ [.int .u8 c]) (by simpa using hown')
  · exact ((hb1.alloc (by have := hb1.size; omega) _).grown hgrow (by have := hb1.size; simp; omega) (fun k hk => (hown.lt k hk).1)).setCell (p := ⟨b, 1, none⟩) hB _
  · exact ((hp1.trans ((Bel.alloc (Bel.refl w1) _ _).pv b)).trans (Pv.grown (hown.alloc _) hgrow)).trans (Pv.set b 1 w2 _)
set_option maxHeartbeats 2000000 in
set_option maxRecDepth 100000 in
theorem writeString_pr (B b : Nat) (bs : List Value) (s : ByteArray) (k : Int) (w : World) (h : IsPr B b bs k w) (hlen : bs.length + s.size ≤ 140737488355328) (hBw : B ≤ w.heap.size) :
    Calls Tryz.prog 94 #[.pointer (some ⟨b, 0, none⟩), .string s] w fun e w' => e = .returned (.tuple #[.int .i64 s.size, .nilIface]) ∧ PrAt B b (.pointer (some ⟨b, 0, none⟩)) (bs ++ Lib.strCells s) k w' ∧ Below B w w' ∧ Pv b w w' := by
  obtain ⟨i0, hi, hz0, hz1, hz2⟩ := info_byte
  go_enter Tryz.func94, Tryz.ntmps94
  go_wp2_with (go_at_call 116; refine (copyCheck_any B b bs k _ h).mono ?_)
  rintro e w1 ⟨rfl, h1, hb1, hp1⟩
  obtain ⟨hB, v, hbk, hown, hne⟩ := h1
  have c0 : w1.cell? ⟨b, 0, none⟩ = some (.pointer (some ⟨b, 0, none⟩)) := cell_of_heap hbk 0
  have c1 : w1.cell? ⟨b, 1, none⟩ = some v := cell_of_heap hbk 1
  go_wp2_with (at_builtin; refine Lib.wpList_append_own_string _ rfl _ _ 70 9 rfl B 5 i0 Tryz.underlying70 Tryz.underlying9 hi hz0 hz1 hz2 _ _ _ rfl hown s rfl ?c3 ?c4 ?c5 ?_)
  case c3 => unfold maxLen; omega
  case c4 => omega
  case c5 => have := hb1.size; omega
  intro v' w2 hown' hgrow _
  have hlt : b < w1.heap.size := lt_of_heap hbk
  have hb2 : w2.heap[b]? = some (.cells #[.pointer (some ⟨b, 0, none⟩), v, .int .i64 k] 74 (0, 0)) := by
    rw [hgrow.block b hlt (fun e => hne e.symm)]
    exact hbk
  have d0 : w2.cell? ⟨b, 0, none⟩ = some (.pointer (some ⟨b, 0, none⟩)) := cell_of_heap hb2 0
  have d1 : w2.cell? ⟨b, 1, none⟩ = some v := cell_of_heap hb2 1
  have f1 : w2.frozen? ⟨b, 1, none⟩ = false := frozen_of_heap hb2 1
  obtain ⟨ao, n', cap, rfl⟩ : ∃ ao n' cap, v' = .slice ao n' cap := by
    rcases hown'.2 with ⟨hv, _⟩ | ⟨g, cap, cur, hv, _⟩
    · exact ⟨_, _, _, hv⟩
    · exact ⟨_, _, _, hv⟩
  go_wp2
  go_ret2
  refine ⟨rfl, ?_, ?_, ?_⟩
  · exact PrAt.put hB hb2 (bs' := bs ++ Lib.strCells s) (by simpa [Lib.strCells_length] using hown')
  · exact (hb1.grown hgrow (by have := hb1.size; omega) (fun k hk => (hown.lt k hk).1)).setCell (p := ⟨b, 1, none⟩) hB _
  · exact (hp1.trans (Pv.grown hown hgrow)).trans (Pv.set b 1 w2 _)
set_option maxHeartbeats 2000000 in
set_option maxRecDepth 100000 in
theorem string_pr (B b : Nat) (l : List UInt8) (k : Int) (w : World) (h : IsPr B b (Lib.byteCells l) k w) (h0 : l ≠ []) :
    Calls Tryz.prog 26 #[.pointer (some ⟨b, 0, none⟩)] w fun e w' => e = .returned (.string ⟨l.toArray⟩) ∧ Below B w w' := by
  obtain ⟨p, hB, v, hbk, hown, hne⟩ : ∃ p, PrAt B b p (Lib.byteCells l) k w := by
    rcases h with h | h
    · exact ⟨_, h⟩
    · exact ⟨_, h⟩
  have hl0 : l.length ≠ 0 := by simpa using h0
  rw [Lib.byteCells_length] at hown
  obtain ⟨g, cap, cur, rfl, hbg, hg, hnc, hcm, hcs, htake⟩ : ∃ g cap cur, v = .slice (some ⟨g, 0, none⟩) l.length cap ∧ B ≤ g ∧ w.heap[g]? = some (.cells cur 5 (0, 0)) ∧ l.length ≤ cap ∧ cap ≤ maxLen ∧ cur.size = cap * 1 ∧ cur.toList.take (l.length * 1) = Lib.byteCells l := by
    rcases hown.2 with ⟨_, hz⟩ | ⟨g, cap, cur, hv, r⟩
    · exact absurd hz hl0
    · exact ⟨g, cap, cur, hv, r⟩
  have c1 : w.drew.cell? ⟨b, 1, none⟩ = some (.slice (some ⟨g, 0, none⟩) l.length cap) := by
    have : w.drew.heap[b]? = some (.cells #[p, .slice (some ⟨g, 0, none⟩) l.length cap, .int .i64 k] 74 (0, 0)) := hbk
    exact cell_of_heap this 1
  have hSD : (Builtin.unsafeSliceData_ #[70] 110 #[.slice (some ⟨g, 0, none⟩) l.length cap]).run Tryz.prog w.drew = .ok (.pointer (some ⟨g, 0, none⟩)) w.drew :=
    Lib.run_unsafeSliceData_row _ _ _ _ _ _ (by omega)
  have hUS : (Builtin.unsafeString_ #[110, 3] 9 #[.pointer (some ⟨g, 0, none⟩), .int .i64 l.length]).run Tryz.prog w.drew = .ok (.string ⟨l.toArray⟩) (w.drew.freeze ⟨g, 0, none⟩ l.length) := by
    refine Lib.run_unsafeString_row w.drew 110 3 9 5 Tryz.underlying110 (by kernel_rfl) g cur.size (by have hg' : w.drew.heap[g]? = some (.cells cur 5 (0, 0)) := hg; simp [World.shape?, hg']) l h0 (by omega) (by unfold maxLen at hcm; omega) ?_
    intro j x hx
    have := hown.cells (g := g) rfl j (.int .u8 x.toNat) (by simp [Lib.byteCells, hx])
    exact this
  have mixed : Tryz.prog.follows .mixedOrders = true := by kernel_rfl
  go_enter Tryz.func26, Tryz.ntmps26
  go_wp2
  go_region_o
  all_goals (go_wp2; go_ret; exact ⟨rfl, Lib.below_freeze (Below.drew (Below.refl B w)) (p := ⟨g, 0, none⟩) hbg _⟩)
/-- the printer's state: so many bytes, so many tabs; what was there before it stands -/
structure StP (W0 : World) (b : Nat) (l : Bs) (k : Int) (w : World) : Prop where
  pr : IsPr W0.heap.size b (Lib.byteCells l) k w
  bel : Bel W0 w
theorem StP.ne {W0 : World} {b : Nat} {l : Bs} {k : Int} {w : World} (h : StP W0 b l k w) : W0.heap.size ≤ b ∧ b < w.heap.size ∧ w.cell? ⟨b, 2, none⟩ = some (.int .i64 k) ∧ w.frozen? ⟨b, 2, none⟩ = false := by
  rcases h.pr with h | h
  · obtain ⟨h1, v, hb, _⟩ := h
    exact ⟨h1, lt_of_heap hb, cell_of_heap hb 2, frozen_of_heap hb 2⟩
  · obtain ⟨h1, v, hb, _⟩ := h
    exact ⟨h1, lt_of_heap hb, cell_of_heap hb 2, frozen_of_heap hb 2⟩
theorem StP.tabs {W0 : World} {b : Nat} {l : Bs} {k : Int} {w : World} (h : StP W0 b l k w) (k' : Int) : StP W0 b l k' (w.setCell ⟨b, 2, none⟩ (.int .i64 k')) :=
  ⟨h.pr.elim (fun p => .inl (p.tabs k')) (fun p => .inr (p.tabs k')), h.bel.setCell (p := ⟨b, 2, none⟩) h.ne.1 _⟩
theorem PrAt.keep {B b : Nat} {p : Value} {bs : List Value} {k : Int} {w w' : World} (h : PrAt B b p bs k w) (hb : Bel w w') : PrAt B b p bs k w' := by
  obtain ⟨h1, v, h2, h3, h4⟩ := h
  exact ⟨h1, v, hb.stays h2, ownsRow_sv h3 (hb.sv fun _ => False) fun _ _ => id, h4⟩
theorem StP.keep {W0 : World} {b : Nat} {l : Bs} {k : Int} {w w' : World} (h : StP W0 b l k w) (hb : Bel w w') : StP W0 b l k w' :=
  ⟨h.pr.elim (fun p => .inl (p.keep hb)) (fun p => .inr (p.keep hb)), h.bel.trans hb⟩
theorem wb_st (c : UInt8) {cv : Int} (hc : (c.toNat : Int) = cv) {W0 : World} {b : Nat} {l : Bs} {k : Int} {w : World} (h : StP W0 b l k w) (hlen : l.length ≤ 70368744177664) :
    Calls Tryz.prog 93 #[.pointer (some ⟨b, 0, none⟩), .int .u8 cv] w fun e w' => e = .returned .nilIface ∧ StP W0 b (l ++ [c]) k w' ∧ Pv b w w' := by
  subst hc
  refine (writeByte_pr W0.heap.size b (Lib.byteCells l) c.toNat k w h.pr (by rw [Lib.byteCells_length]; omega) h.bel.size).mono ?_
  rintro e w' ⟨rfl, hp, hb, hv⟩
  refine ⟨rfl, ⟨.inr ?_, Below.trans h.bel hb⟩, hv⟩
  have e : Lib.byteCells (l ++ [c]) = Lib.byteCells l ++ [.int .u8 c.toNat] := by simp [Lib.byteCells]
  rw [e]
  exact hp
theorem ws_st {s : ByteArray} {S : Bs} (hs : S = s.data.toList) {W0 : World} {b : Nat} {l : Bs} {k : Int} {w : World} (h : StP W0 b l k w) (hlen : l.length + S.length ≤ 70368744177664) :
    Calls Tryz.prog 94 #[.pointer (some ⟨b, 0, none⟩), .string s] w fun e w' => e = .returned (.tuple #[.int .i64 s.size, .nilIface]) ∧ StP W0 b (l ++ S) k w' ∧ Pv b w w' := by
  subst hs
  rw [size_list] at hlen
  refine (writeString_pr W0.heap.size b (Lib.byteCells l) s k w h.pr (by rw [Lib.byteCells_length]; omega) h.bel.size).mono ?_
  rintro e w' ⟨rfl, hp, hb, hv⟩
  refine ⟨rfl, ⟨.inr ?_, Below.trans h.bel hb⟩, hv⟩
  have e : Lib.byteCells (l ++ s.data.toList) = Lib.byteCells l ++ Lib.strCells s := by simp [Lib.byteCells, Lib.strCells]
  rw [e]
  exact hp
theorem str_st {W0 : World} {b : Nat} {l : Bs} {k : Int} {w : World} (h : StP W0 b l k w) (h0 : l ≠ []) :
    Calls Tryz.prog 26 #[.pointer (some ⟨b, 0, none⟩)] w fun e w' => e = .returned (.string (str l)) ∧ Bel W0 w' := by
  refine (string_pr W0.heap.size b l k w h.pr h0).mono ?_
  rintro e w' ⟨rfl, hb⟩
  exact ⟨rfl, Below.trans h.bel hb⟩
/-- a fresh one -/
theorem fresh_st (w : World) : StP w w.heap.size [] 0 (w.alloc (.cells #[.pointer none, .slice none 0 0, .int .i64 0] 74)) :=
  ⟨.inl ⟨Nat.le_refl _, .slice none 0 0, heap_alloc_new w _, World.ownsRow_nil _ _ _ _, by simp [Value.ownBlock]⟩, (Bel.refl w).alloc _ _⟩
end Go.Proofs.YthlnjnmomnpnpaaGreatDoor
