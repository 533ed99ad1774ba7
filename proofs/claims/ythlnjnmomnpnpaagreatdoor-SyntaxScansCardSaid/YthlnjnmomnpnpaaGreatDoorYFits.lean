/- Package syntax: does a part fit its shape? -/
import Derived.Test.YthlnjnmomnpnpaaGreatDoorYPart
import Derived.Deep.DeepCutAuto
import Derived.Deep.CutBlock
namespace Go.Proofs.YthlnjnmomnpnpaaGreatDoor
open Go.RowKit Tk Sy
set_option linter.unusedVariables false
set_option linter.unusedSimpArgs false
theorem numbers' {op r : Int} (h : numbersV op = r) (w : World) : Calls Tryz.prog 103 #[.int .i64 op] w fun e w' => e = .returned (.int .i64 r) ∧ w' = w := (numbers_lit h w).mono fun _ _ ⟨h1, h2⟩ => ⟨h1, h2.symm⟩
theorem within' {n a b : Int} {r : Bool} (h : within n a b = r) (w : World) : Calls Tryz.prog 29 #[.int .i64 n, .int .i64 a, .int .i64 b] w fun e w' => e = .returned (.bool r) ∧ w' = w := (within_lit h w).mono fun _ _ ⟨h1, h2⟩ => ⟨h1, h2.symm⟩
theorem nameIf' {b r : Bool} {s : ByteArray} (h : nameIf b s = r) (hs : s.size ≤ maxLen) (w : World) : Calls Tryz.prog 104 #[.bool b, .string s] w fun e w' => e = .returned (.bool r) ∧ w' = w := (nameIf_lit h hs w).mono fun _ _ ⟨h1, h2⟩ => ⟨h1, h2.symm⟩
theorem name' {s : ByteArray} {b : Bool} (h : isName s.data.toList = b) (hs : s.size ≤ maxLen) (w : World) : Calls Tryz.prog 62 #[.string s] w fun e w' => e = .returned (.bool b) ∧ w' = w := (name_lit h hs w).mono fun _ _ ⟨h1, h2⟩ => ⟨h1, h2.symm⟩
theorem eqI (a b : Int) : (a == b) = decide (a = b) := by rw [Bool.eq_iff_iff, beq_iff_eq, decide_eq_true_eq]
set_option maxHeartbeats 8000000 in
theorem fitsE_lit {s : Shp} {e : Ex} {q : Option Addr} {c : Nat} {r : Bool} (h : fitsE s e = r) (hw : WfE e) (w : World) :
    Calls Tryz.prog 76 #[shV s, exV q c e] w fun e w' => e = .returned (.bool r) ∧ Bel w w' := by
  have hnm := hw.name
  have hln := hw.args
  obtain ⟨n1, hn1⟩ : ∃ n, numbersV e.op = n := ⟨_, rfl⟩
  obtain ⟨b1, hb1⟩ : ∃ b, (n1 == s.op) = b := ⟨_, rfl⟩
  obtain ⟨b2, hb2⟩ : ∃ b, within e.n 0 s.most = b := ⟨_, rfl⟩
  obtain ⟨b3, hb3⟩ : ∃ b, nameIf s.nm e.name = b := ⟨_, rfl⟩
  obtain ⟨b4, hb4⟩ : ∃ b, ((e.args.length : Int) == s.args) = b := ⟨_, rfl⟩
  have HR : Hid ((s.known && (b1 && (b2 && (b3 && b4)))) = r) := Lib.hid (by
    rw [← h]
    unfold fitsE
    rw [hn1, ← hb1, hb2, hb3, ← hb4, eqI, eqI])
  obtain ⟨kn, nmb, srcb, mo, so, sa, th, el⟩ := s
  obtain ⟨ek, eo, en, es, ea⟩ := e
  simp only at HR hb1 hb2 hb3 hb4 hn1 hnm hln
  simp only [Ex.op, Ex.n, Ex.name, Ex.args] at HR hb1 hb2 hb3 hb4 hn1 hnm hln
  have HN1 := Lib.hid hn1
  have HB2 := Lib.hid hb2
  have HB3 := Lib.hid hb3
  have HNM := Lib.hid hnm
  clear hn1 hb2 hb3 hnm h hw
  show Calls Tryz.prog 76 #[.agg #[.bool kn, .bool nmb, .bool srcb, .int .i64 mo, .int .i64 so, .int .i64 sa, .bool th, .bool el], .agg #[.int .i64 ek, .int .i64 eo, .int .i64 en, .string es, .slice q ea.length c]] w _
  go_enter Tryz.func76, Tryz.ntmps76
  go_upto_region 1 with (fail)
  have hA := (heap_alloc_old (w.alloc (.cells #[.bool kn, .bool nmb, .bool srcb, .int .i64 mo, .int .i64 so, .int .i64 sa, .bool th, .bool el] 120)) (.cells #[.int .i64 ek, .int .i64 eo, .int .i64 en, .string es, .slice q ea.length c] 40) (lt_of_heap (heap_alloc_new w _))).trans (heap_alloc_new w (.cells #[.bool kn, .bool nmb, .bool srcb, .int .i64 mo, .int .i64 so, .int .i64 sa, .bool th, .bool el] 120))
  have hB := heap_alloc_new (w.alloc (.cells #[.bool kn, .bool nmb, .bool srcb, .int .i64 mo, .int .i64 so, .int .i64 sa, .bool th, .bool el] 120)) (.cells #[.int .i64 ek, .int .i64 eo, .int .i64 en, .string es, .slice q ea.length c] 40)
  have hz : (w.alloc (.cells #[.bool kn, .bool nmb, .bool srcb, .int .i64 mo, .int .i64 so, .int .i64 sa, .bool th, .bool el] 120)).heap.size = w.heap.size + 1 := by unfold World.alloc; exact Array.size_push _
  rw [hz] at hB
  have hb0 := ((Bel.refl w).alloc #[.bool kn, .bool nmb, .bool srcb, .int .i64 mo, .int .i64 so, .int .i64 sa, .bool th, .bool el] 120).alloc #[.int .i64 ek, .int .i64 eo, .int .i64 en, .string es, .slice q ea.length c] 40
  generalize (w.alloc (.cells #[.bool kn, .bool nmb, .bool srcb, .int .i64 mo, .int .i64 so, .int .i64 sa, .bool th, .bool el] 120)).alloc (.cells #[.int .i64 ek, .int .i64 eo, .int .i64 en, .string es, .slice q ea.length c] 40) = W at hA hB hb0 ⊢
  have a0 : W.cell? ⟨w.heap.size, 0, none⟩ = some (.bool kn) := cell_of_heap hA 0
  have a1 : W.cell? ⟨w.heap.size, 1, none⟩ = some (.bool nmb) := cell_of_heap hA 1
  have a3 : W.cell? ⟨w.heap.size, 3, none⟩ = some (.int .i64 mo) := cell_of_heap hA 3
  have a4 : W.cell? ⟨w.heap.size, 4, none⟩ = some (.int .i64 so) := cell_of_heap hA 4
  have a5 : W.cell? ⟨w.heap.size, 5, none⟩ = some (.int .i64 sa) := cell_of_heap hA 5
  have e1 : W.cell? ⟨w.heap.size + 1, 1, none⟩ = some (.int .i64 eo) := cell_of_heap hB 1
  have e2 : W.cell? ⟨w.heap.size + 1, 2, none⟩ = some (.int .i64 en) := cell_of_heap hB 2
  have e3 : W.cell? ⟨w.heap.size + 1, 3, none⟩ = some (.string es) := cell_of_heap hB 3
  have e4 : W.cell? ⟨w.heap.size + 1, 4, none⟩ = some (.slice q ea.length c) := cell_of_heap hB 4
  have HB := Lib.hid hb0
  clear hA hB hz hb0
  have hq : kn = false ∨ (kn = true ∧ b1 = false) ∨ (kn = true ∧ b1 = true ∧ b2 = false) ∨ (kn = true ∧ b1 = true ∧ b2 = true ∧ b3 = false) ∨ (kn = true ∧ b1 = true ∧ b2 = true ∧ b3 = true) := by cases kn <;> cases b1 <;> cases b2 <;> cases b3 <;> simp
  rcases hq with rfl | ⟨rfl, rfl⟩ | ⟨rfl, rfl, rfl⟩ | ⟨rfl, rfl, rfl, rfl⟩ | ⟨rfl, rfl, rfl, rfl⟩
  all_goals
    go_quiet ((first
      | (go_at_call 103; with_reducible refine Calls.quiet_of_same (numbers' HN1.out _))
      | (go_at_call 29; with_reducible refine Calls.quiet_of_same (within' HB2.out _))
      | (go_at_call 104; with_reducible refine Calls.quiet_of_same (nameIf' HB3.out HNM.out _))))
    go_wp2
    go_ret
    exact ⟨by have e := HR.out; subst e; rfl, HB.out.drewN _⟩
end Go.Proofs.YthlnjnmomnpnpaaGreatDoor
