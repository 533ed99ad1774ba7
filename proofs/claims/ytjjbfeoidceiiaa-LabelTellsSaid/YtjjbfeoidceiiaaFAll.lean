/- Package label's functions, of no items. -/
import Derived.Test.YtjjbfeoidceiiaaLShortW
import Derived.Test.YtjjbfeoidceiiaaFAsm2
namespace Go.Proofs.Ytjjbfeoidceiiaa
open Go.RowKit Rv Lb
set_option linter.unusedVariables false
set_option maxRecDepth 20000 in
set_option maxHeartbeats 1000000 in
theorem targets_nil (p : Option Addr) (c : Nat) (w : World) : Calls Try.prog 62 #[.slice p 0 c] w fun e w' => (∃ TB : Nat, e = .returned (.tuple #[.slice (some ⟨TB, 0, none⟩) 0 0, .bool true])) ∧ Both w w' := by
  have hmm := @run_makeMap Try.prog
  have hmk := make_ints 31 Try.underlying31 0 0 (Nat.le_refl _) (by omega)
  rw [show (((0 : Nat) : Int)) = 0 from rfl] at hmk
  go_enter Try.func62, Try.ntmps62
  go_wp2_with fail
  go_loopw [17] (fun i wr => i = .int .i64 0 ∧ Both w wr) (fun i _ => 0)
  case atStart => exact ⟨rfl, (Both.refl w).allocMap _ _⟩
  case round =>
    obtain ⟨rfl, hb⟩ := hrel
    go_wp2_with fail
    go_loopw [43] (fun i wr => i = .int .i64 0 ∧ Both w wr) (fun i _ => 0)
    case atStart => exact ⟨rfl, hb.alloc _ _⟩
    case round =>
      obtain ⟨rfl, hb2⟩ := hrel
      go_wp2_with fail
      go_ret2
      exact ⟨⟨_, rfl⟩, hb2⟩
set_option maxRecDepth 20000 in
set_option maxHeartbeats 1000000 in
theorem branches_nil (Y : Nat) (P I S T : Value) (p : Option Addr) (c : Nat) (w : World) (hI : I = .slice p 0 c) (hy : w.heap[Y]? = some (.cells #[P, I, S, T] 57 (0, 0))) :
    Calls Try.prog 78 #[.pointer (some ⟨Y, 0, none⟩)] w fun e w' => e = .returned (.slice none 0 0) ∧ w = w' := by
  subst hI
  have q1 := cell_of_heap hy 1
  simp only [List.getElem?_toArray, List.getElem?_cons_zero, List.getElem?_cons_succ] at q1
  clear hy
  go_enter Try.func78, Try.ntmps78
  go_wp2_with fail
  go_loopw [3, 12] (fun v i wr => v = .slice none 0 0 ∧ i = .int .i64 0 ∧ w = wr) (fun _ i _ => 0)
  case atStart => exact ⟨rfl, rfl, rfl⟩
  case round =>
    obtain ⟨rfl, rfl, rfl⟩ := hrel
    go_wp2_with fail
    go_ret
    exact ⟨rfl, rfl⟩
set_option maxRecDepth 20000 in
set_option maxHeartbeats 1000000 in
theorem reckon_nil (Y : Nat) (P I T : Value) (p : Option Addr) (c : Nat) (w : World) (hI : I = .slice p 0 c) (hy : w.heap[Y]? = some (.cells #[P, I, .slice none 0 0, T] 57 (0, 0))) :
    Calls Try.prog 64 #[.pointer (some ⟨Y, 0, none⟩)] w fun e w' => e = .returned (.tuple #[]) ∧ w' = (w.setCell ⟨Y, 0, none⟩ (.slice (some ⟨w.heap.size, 0, none⟩) 1 1)).alloc (.cells #[.int .i64 0] 3) := by
  subst hI
  have q0 := cell_of_heap hy 0
  have q1 := cell_of_heap hy 1
  have q2 := cell_of_heap hy 2
  simp only [List.getElem?_toArray, List.getElem?_cons_zero, List.getElem?_cons_succ] at q0 q1 q2
  have f0 := frozen_of_heap hy 0
  have ly := lt_of_heap hy
  have hmk := make_ints 55 Try.underlying55 1 1 (by omega) (by omega)
  rw [show (((1 : Nat) : Int)) = 1 from rfl] at hmk
  have q0' : (w.alloc (.cells (ints (List.replicate 1 0)).toArray 3)).cell? ⟨Y, 0, none⟩ = some P := (World.cell?_alloc_lt _ _ _ ly).trans q0
  clear hy
  go_enter Try.func64, Try.ntmps64
  go_wp2_with fail
  clear q0 q1 q2 f0 hmk q0'
  go_loopw [19] (fun i wr => i = .int .i64 0 ∧ wr = (w.setCell ⟨Y, 0, none⟩ (.slice (some ⟨w.heap.size, 0, none⟩) 1 1)).alloc (.cells #[.int .i64 0] 3)) (fun i _ => 0)
  case atStart => exact ⟨rfl, rfl⟩
  case round =>
    obtain ⟨rfl, rfl⟩ := hrel
    go_wp2_with fail
    go_end0
    exact ⟨rfl, rfl⟩
theorem reck4 {w : World} {Y : Nat} {P I S T v : Value} (h : w.heap[Y]? = some (.cells #[P, I, S, T] 57 (0, 0))) (o : Obj) : ((w.setCell ⟨Y, 0, none⟩ v).alloc o).heap[Y]? = some (.cells #[v, I, S, T] 57 (0, 0)) := by
  have hs : (w.setCell ⟨Y, 0, none⟩ v).heap.size = w.heap.size := by simp [World.setCell]
  rw [heap_alloc_old _ _ (by rw [hs]; exact lt_of_heap h), setCell_eq_setRow w Y 0 _ _ (0, 0) v h]
  exact setRow_heap _ _ _ _ _ _ h
theorem reckon_nil2 (Y : Nat) (P I T : Value) (p : Option Addr) (c : Nat) (w : World) (hI : I = .slice p 0 c) (hy : w.heap[Y]? = some (.cells #[P, I, .slice none 0 0, T] 57 (0, 0))) :
    Calls Try.prog 64 #[.pointer (some ⟨Y, 0, none⟩)] w fun e w' => e = .returned (.tuple #[]) ∧ ∃ PB, w.heap.size ≤ PB ∧ w'.heap[Y]? = some (.cells #[.slice (some ⟨PB, 0, none⟩) 1 1, I, .slice none 0 0, T] 57 (0, 0)) ∧ w'.heap[PB]? = some (.cells #[.int .i64 0] 3 (0, 0)) ∧ Sav (fun k => k = Y) w w' := by
  refine (reckon_nil Y P I T p c w hI hy).mono ?_
  rintro e w' ⟨rfl, rfl⟩
  refine ⟨rfl, w.heap.size, Nat.le_refl _, reck4 hy _, ?_, ?_⟩
  · have hs : (w.setCell ⟨Y, 0, none⟩ (.slice (some ⟨w.heap.size, 0, none⟩) 1 1)).heap.size = w.heap.size := by simp [World.setCell]
    exact new_heap hs _
  · exact (Sav.setCell (p := ⟨Y, 0, none⟩) (Sav.refl (fun k => k = Y) w) (Or.inl rfl) _).alloc _ _
set_option maxRecDepth 20000 in
set_option maxHeartbeats 1000000 in
theorem lengthen_nil (Y : Nat) (P I T : Value) (p : Option Addr) (c : Nat) (w : World) (hI : I = .slice p 0 c) (hy : w.heap[Y]? = some (.cells #[P, I, .slice none 0 0, T] 57 (0, 0))) :
    Calls Try.prog 65 #[.pointer (some ⟨Y, 0, none⟩)] w fun e w' => e = .returned (.tuple #[]) ∧ w = w' := by
  go_enter Try.func65, Try.ntmps65
  go_wp2_with fail
  refine (branches_nil Y P I (.slice none 0 0) T p c w hI hy).mono ?_
  rintro e w1 ⟨rfl, rfl⟩
  go_wp2_with fail
  refine wp_loop_rounds 1 ?_
  rw [rounds_succ]
  go_wp2_with fail
  refine wp_loop_rounds 1 ?_
  rw [rounds_succ]
  go_wp2_with fail
  go_end0
  exact ⟨rfl, rfl⟩
set_option maxRecDepth 20000 in
set_option maxHeartbeats 2000000 in
theorem lay_nil (p : Option Addr) (c : Nat) (w : World) : Calls Try.prog 32 #[.slice p 0 c] w fun e w' => Both w w' ∧ ∃ PB TB, e = .returned (.tuple #[.agg #[.slice (some ⟨PB, 0, none⟩) 1 1, .slice p 0 c, .slice none 0 0, .slice (some ⟨TB, 0, none⟩) 0 0], .int .i64 0]) ∧ IntsAt w' PB 0 [0] := by
  have ex0 : ∀ (x y : Value) (W : World), (Instr.extract (.tuple #[x, y]) 0).run Try.prog W = .ok x W := fun x y W => by kernel_rfl
  have ex1 : ∀ (x y : Value) (W : World), (Instr.extract (.tuple #[x, y]) 1).run Try.prog W = .ok y W := fun x y W => by kernel_rfl
  go_enter Try.func32, Try.ntmps32
  go_wp2_with fail
  refine wp_loop_rounds 1 ?_
  rw [rounds_succ]
  go_wp2_with fail
  refine (targets_nil p c _).mono ?_
  rintro e w1 ⟨⟨TB, rfl⟩, hb1⟩
  have hres := (hb1.1.block w.heap.size (by simp)).trans (heap_alloc_new _ _)
  have HB1 := Lib.hid (((Both.refl w).alloc _ _).trans hb1)
  have HRES := Lib.hid hres
  clear hb1 hres
  go_wp2_with fail
  have hy2 := heap_alloc_new w1 (.cells #[.slice none 0 0, .slice p 0 c, .slice none 0 0, .slice (some ⟨TB, 0, none⟩) 0 0] 57)
  have hb2 := HB1.out.alloc #[.slice none 0 0, .slice p 0 c, .slice none 0 0, .slice (some ⟨TB, 0, none⟩) 0 0] 57
  have hr2 := (heap_alloc_old w1 (.cells #[.slice none 0 0, .slice p 0 c, .slice none 0 0, .slice (some ⟨TB, 0, none⟩) 0 0] 57) (lt_of_heap HRES.out)).trans HRES.out
  have hyw : w.heap.size ≤ w1.heap.size := HB1.out.1.size
  have hlr := lt_of_heap HRES.out
  generalize w1.alloc (.cells #[.slice none 0 0, .slice p 0 c, .slice none 0 0, .slice (some ⟨TB, 0, none⟩) 0 0] 57) = W2 at hy2 hb2 hr2 ⊢
  obtain ⟨Y, hY⟩ : ∃ Y, Y = w1.heap.size := ⟨_, rfl⟩
  rw [← hY] at hy2 hyw hlr ⊢
  clear hY
  have HY2 := Lib.hid hy2
  have HB2 := Lib.hid hb2
  have HR2 := Lib.hid hr2
  clear hy2 hb2 hr2
  refine wp_loop_rounds 1 ?_
  rw [rounds_succ]
  go_wp2_with fail
  refine (reckon_nil2 Y _ _ (.slice (some ⟨TB, 0, none⟩) 0 0) p c W2 rfl HY2.out).mono ?_
  rintro e w3 ⟨rfl, P3, h31, h32, h33, h34⟩
  have HY3 := Lib.hid h32
  have HR3 := Lib.hid ((h34.block w.heap.size (lt_of_heap HR2.out) (by omega)).trans HR2.out)
  have HB3 := Lib.hid (h34.both HB2.out (fun k hk => by omega))
  clear h31 h32 h33 h34
  go_wp2_with fail
  refine (lengthen_nil Y _ _ (.slice (some ⟨TB, 0, none⟩) 0 0) p c w3 rfl HY3.out).mono ?_
  rintro e w4 ⟨rfl, rfl⟩
  go_wp2_with fail
  refine (reckon_nil2 Y _ _ (.slice (some ⟨TB, 0, none⟩) 0 0) p c w3 rfl HY3.out).mono ?_
  rintro e w5 ⟨rfl, PB, h51, h52, h53, h54⟩
  have hr5 := (h54.block w.heap.size (lt_of_heap HR3.out) (by omega)).trans HR3.out
  have HB5 := Lib.hid (h54.both HB3.out (fun k hk => by omega))
  have HP5 := Lib.hid h53
  have y0 := cell_of_heap h52 0
  have y1 := cell_of_heap h52 1
  have y2 := cell_of_heap h52 2
  have y3 := cell_of_heap h52 3
  have r0 := cell_of_heap hr5 0
  have r1 := cell_of_heap hr5 1
  have r2 := cell_of_heap hr5 2
  have r3 := cell_of_heap hr5 3
  have f0 := frozen_of_heap hr5 0
  have f1 := frozen_of_heap hr5 1
  have f2 := frozen_of_heap hr5 2
  have f3 := frozen_of_heap hr5 3
  have hend := cell_of_heap h53 0
  simp only [List.getElem?_toArray, List.getElem?_cons_zero, List.getElem?_cons_succ] at y0 y1 y2 y3 r0 r1 r2 r3 hend
  have HR5 := Lib.hid hr5
  have hPB : w.heap.size ≠ PB := by have := lt_of_heap HR3.out; omega
  have hPB2 : w.heap.size < PB := by have := lt_of_heap HR3.out; omega
  clear h51 h52 h53 h54 hr5
  go_wp2_with (go_at_call 34; refine (end_any PB 1 1 0 _ (by omega) (by omega) (by exact hend)).mono ?_; rintro e w' ⟨rfl, rfl⟩)
  refine bodyPost_ret (v := .tuple #[.agg #[.slice (some ⟨PB, 0, none⟩) 1 1, .slice p 0 c, .slice none 0 0, .slice (some ⟨TB, 0, none⟩) 0 0], .int .i64 0]) (results_cell_slot Try.results32 _ _ w.heap.size _ _ _ _ _ rfl rfl (set4 HR5.out _ _ _ _) Try.underlying57 rfl lay_size) rfl ?_
  refine ⟨both4 HB5.out (Nat.le_refl _) _ _ _ _, PB, TB, rfl, ?_⟩
  have h0 := ints_at0 (xs := [0]) HP5.out
  exact h0.sav (Sav.setCell (p := ⟨w.heap.size, 3, none⟩) (Sav.setCell (p := ⟨w.heap.size, 2, none⟩) (Sav.setCell (p := ⟨w.heap.size, 1, none⟩) (Sav.setCell (p := ⟨w.heap.size, 0, none⟩) (Sav.refl (fun j => j = w.heap.size) w5) (Or.inl rfl) _) (Or.inl rfl) _) (Or.inl rfl) _) (Or.inl rfl) _) (fun e => hPB e.symm)
set_option maxRecDepth 20000 in
set_option maxHeartbeats 1000000 in
theorem places_nil (p : Option Addr) (c : Nat) (w : World) : Calls Try.prog 14 #[.slice p 0 c] w fun e w' => Both w w' ∧ ∃ PB, e = .returned (.tuple #[.slice (some ⟨PB, 0, none⟩) 1 1, .int .i64 0]) ∧ IntsAt w' PB 0 [0] := by
  have ex0 : ∀ (x y : Value) (W : World), (Instr.extract (.tuple #[x, y]) 0).run Try.prog W = .ok x W := fun x y W => by kernel_rfl
  have ex1 : ∀ (x y : Value) (W : World), (Instr.extract (.tuple #[x, y]) 1).run Try.prog W = .ok y W := fun x y W => by kernel_rfl
  go_enter Try.func14, Try.ntmps14
  go_wp2_with fail
  refine (lay_nil p c _).mono ?_
  rintro e w1 ⟨hb, PB, TB, rfl, hP⟩
  have HB := Lib.hid hb
  have HP := Lib.hid hP
  clear hb hP
  go_wp2_with fail
  go_ret2
  exact ⟨HB.out.alloc _ _, PB, rfl, HP.out.both ((Both.refl _).alloc _ _)⟩
set_option maxRecDepth 20000 in
set_option maxHeartbeats 1000000 in
theorem find_nil (p : Option Addr) (c : Nat) (s : ByteArray) (w : World) : Calls Try.prog 19 #[.slice p 0 c, .string s] w fun e w' => e = .returned (.int .i64 (-1)) ∧ Both w w' := by
  have ex0 : ∀ (x y : Value) (W : World), (Instr.extract (.tuple #[x, y]) 0).run Try.prog W = .ok x W := fun x y W => by kernel_rfl
  have ex1 : ∀ (x y : Value) (W : World), (Instr.extract (.tuple #[x, y]) 1).run Try.prog W = .ok y W := fun x y W => by kernel_rfl
  go_enter Try.func19, Try.ntmps19
  go_wp2_with fail
  refine (lay_nil p c _).mono ?_
  rintro e w1 ⟨hb, PB, TB, rfl, hP⟩
  have HB := Lib.hid hb
  clear hb hP
  go_wp2_with fail
  refine wp_loop_rounds 1 ?_
  rw [rounds_succ]
  go_wp2_with fail
  go_ret
  exact ⟨rfl, HB.out.alloc _ _⟩
set_option maxRecDepth 20000 in
set_option maxHeartbeats 1000000 in
theorem asm_nil (p : Option Addr) (c : Nat) (w : World) : Calls Try.prog 16 #[.slice p 0 c] w fun e w' => Both w w' ∧ ∃ q d, e = .returned (.tuple #[.slice q 0 d, .int .i64 0]) := by
  have ex0 : ∀ (x y : Value) (W : World), (Instr.extract (.tuple #[x, y]) 0).run Try.prog W = .ok x W := fun x y W => by kernel_rfl
  have ex1 : ∀ (x y : Value) (W : World), (Instr.extract (.tuple #[x, y]) 1).run Try.prog W = .ok y W := fun x y W => by kernel_rfl
  go_enter Try.func16, Try.ntmps16
  go_wp2_with fail
  refine (lay_nil p c _).mono ?_
  rintro e w1 ⟨hb, PB, TB, rfl, hP⟩
  have hend := hP.2 0 0 rfl
  have hPl := hP.1
  have HB := Lib.hid hb
  clear hb hP
  go_wp2_with fail
  refine (end_any PB 1 1 0 _ (by omega) (by omega) ((World.cell?_alloc_lt _ _ _ hPl).trans hend)).mono ?_
  rintro e w' ⟨rfl, rfl⟩
  have hmk := make_ints 31 Try.underlying31 0 0 (Nat.le_refl _) (by omega)
  rw [show (((0 : Nat) : Int)) = 0 from rfl] at hmk
  clear hend
  go_wp2_with fail
  refine wp_loop_rounds 1 ?_
  rw [rounds_succ]
  go_wp2_with fail
  go_ret2
  exact ⟨(HB.out.alloc _ _).alloc _ _, _, _, rfl⟩
end Go.Proofs.Ytjjbfeoidceiiaa
/- The document's own functions, of no items. -/
namespace Go.Proofs.Ytjjbfeoidceiiaa
open Go.RowKit Rv Lb
set_option linter.unusedVariables false
set_option maxRecDepth 20000 in
set_option maxHeartbeats 1000000 in
theorem labelR_nil (p : Option Addr) (c : Nat) (s : ByteArray) (w : World) : Calls Try.prog 37 #[.slice p 0 c, .string s] w fun e w' => e = .returned (.int .i64 (-1)) ∧ w = w' := by
  go_enter Try.func37, Try.ntmps37
  go_wp2_with fail
  refine wp_loop_rounds 1 ?_
  rw [rounds_succ]
  go_wp2_with fail
  go_ret
  exact ⟨rfl, rfl⟩
set_option maxRecDepth 20000 in
set_option maxHeartbeats 1000000 in
theorem placesR_nil (p q : Option Addr) (c d : Nat) (w : World) : Calls Try.prog 66 #[.slice p 0 c, .slice q 0 d] w fun e w' => e = .returned (.slice (some ⟨w.heap.size, 0, none⟩) 1 1) ∧ w' = w.alloc (.cells #[.int .i64 0] 3) := by
  go_enter Try.func66, Try.ntmps66
  go_wp2_with fail
  refine wp_loop_rounds 1 ?_
  rw [rounds_succ]
  go_wp2_with fail
  go_ret
  exact ⟨rfl, rfl⟩
set_option maxRecDepth 20000 in
set_option maxHeartbeats 2000000 in
theorem laidR_nil (p : Option Addr) (c : Nat) (w : World) : Calls Try.prog 33 #[.slice p 0 c] w fun e w' => Both w w' ∧ ∃ PB q d, e = .returned (.tuple #[.slice (some ⟨PB, 0, none⟩) 1 1, .slice q 0 d, .int .i64 0]) ∧ IntsAt w' PB 0 [0] := by
  have hmk := make_bools 0 (by omega)
  rw [show (((0 : Nat) : Int)) = 0 from rfl] at hmk
  go_enter Try.func33, Try.ntmps33
  go_wp2_with fail
  refine wp_loop_rounds 1 ?_
  rw [rounds_succ]
  go_wp2_with fail
  refine wp_loop_rounds 1 ?_
  rw [rounds_succ]
  go_wp2_with fail
  refine (placesR_nil p _ c _ _).mono ?_
  rintro e w1 ⟨rfl, rfl⟩
  go_wp2_with fail
  refine wp_loop_rounds 2 ?_
  rw [rounds_succ]
  go_wp2_with fail
  refine wp_loop_rounds 1 ?_
  rw [rounds_succ]
  go_wp2_with fail
  refine (placesR_nil p _ c _ _).mono ?_
  rintro e w2 ⟨rfl, rfl⟩
  go_wp2_with fail
  rw [rounds_succ]
  go_wp2_with fail
  go_ret3
  exact ⟨(((Both.refl _).alloc _ _).alloc _ _).alloc _ _, _, _, _, rfl, ints_at0 (xs := [0]) (new_heap (by simp) _)⟩
set_option maxRecDepth 20000 in
set_option maxHeartbeats 1000000 in
theorem plR_nil (p : Option Addr) (c : Nat) (w : World) : Calls Try.prog 15 #[.slice p 0 c] w fun e w' => Both w w' ∧ ∃ PB, e = .returned (.tuple #[.slice (some ⟨PB, 0, none⟩) 1 1, .int .i64 0]) ∧ IntsAt w' PB 0 [0] := by
  have x0 := ext0
  have x1 := ext1
  have x2 := ext2
  go_enter Try.func15, Try.ntmps15
  go_wp2_with fail
  refine (laidR_nil p c w).mono ?_
  rintro e w1 ⟨hb, PB, q, d, rfl, hP⟩
  have HB := Lib.hid hb
  have HP := Lib.hid hP
  clear hb hP
  go_wp2_with fail
  go_ret2
  exact ⟨HB.out, PB, rfl, HP.out⟩
set_option maxRecDepth 20000 in
set_option maxHeartbeats 1000000 in
theorem findR_nil (p : Option Addr) (c : Nat) (s : ByteArray) (w : World) : Calls Try.prog 20 #[.slice p 0 c, .string s] w fun e w' => e = .returned (.int .i64 (-1)) ∧ Both w w' := by
  have x0 := exd0
  have x1 := exd1
  go_enter Try.func20, Try.ntmps20
  go_wp2_with fail
  refine (plR_nil p c w).mono ?_
  rintro e w1 ⟨hb, PB, rfl, hP⟩
  have HB := Lib.hid hb
  clear hb hP
  go_wp2_with fail
  refine (labelR_nil p c s _).mono ?_
  rintro e w2 ⟨rfl, rfl⟩
  go_wp2_with fail
  go_ret
  exact ⟨rfl, HB.out⟩
set_option maxRecDepth 20000 in
set_option maxHeartbeats 1000000 in
theorem asmR_nil (p : Option Addr) (c : Nat) (w : World) : Calls Try.prog 17 #[.slice p 0 c] w fun e w' => Both w w' ∧ e = .returned (.tuple #[.slice none 0 0, .int .i64 0]) := by
  have x0 := ext0
  have x1 := ext1
  have x2 := ext2
  go_enter Try.func17, Try.ntmps17
  go_wp2_with fail
  refine (laidR_nil p c w).mono ?_
  rintro e w1 ⟨hb, PB, q, d, rfl, hP⟩
  have HB := Lib.hid hb
  clear hb hP
  go_wp2_with fail
  refine wp_loop_rounds 1 ?_
  rw [rounds_succ]
  go_wp2_with fail
  go_ret2
  exact ⟨HB.out, rfl⟩
end Go.Proofs.Ytjjbfeoidceiiaa
/- Both answers, over any slice of at most twenty items. -/
namespace Go.Proofs.Ytjjbfeoidceiiaa
open Go.RowKit Rv Lb
set_option linter.unusedVariables false
/-- a slice of items, which may be empty -/
structure Sl (w : World) (p : Option Addr) (l : List Itm) : Prop where
  at' : 1 ≤ l.length → ∃ b o, p = some ⟨b, o, none⟩ ∧ ItemsAt w b o l
  few : l.length ≤ 20
  wf : ∀ x ∈ l, Itm.wf x
theorem Sl.both {w w' : World} {p : Option Addr} {l : List Itm} (h : Sl w p l) (hb : Both w w') : Sl w' p l :=
  ⟨fun h1 => by obtain ⟨b, o, e, i⟩ := h.at' h1; exact ⟨b, o, e, i.both hb⟩, h.few, h.wf⟩
theorem layE_nil : layE [] = 0 := by
  unfold layE
  rw [if_neg (by simp), if_neg (by simp), if_neg (by simp [okT]), if_neg (by simp [place])]
noncomputable def plV (l : List Itm) : List Int := if layE l = 0 then sumsTo (szs l (Lb.fin l)) l.length else []
noncomputable def wdV (l : List Itm) : List Int := if layE l = 0 then wordsTo l l.length else []
theorem plV_nil : plV [] = [0] := by unfold plV; rw [if_pos layE_nil]; rfl
theorem wdV_nil : wdV [] = [] := by unfold wdV; rw [if_pos layE_nil]; rfl
theorem findV_nil (s : ByteArray) : findV [] s = -1 := by unfold findV; rw [if_pos layE_nil]; rfl
theorem IntsQ.nil (w : World) (p : Option Addr) : IntsQ w p [] := fun j i hj => by simp at hj
def RowIs (v : List Int) (E : Int) (w : World) (e : Ending) (w' : World) : Prop := ∃ q c, e = .returned (.tuple #[.slice q v.length c, .int .i64 E]) ∧ IntsQ w' q v ∧ Both w w'
theorem pl_all (p : Option Addr) (c : Nat) (l : List Itm) (w : World) (H : Hid (Sl w p l)) : Calls Try.prog 14 #[.slice p l.length c] w (RowIs (plV l) (layE l) w) := by
  by_cases h0 : l.length = 0
  · obtain rfl := List.eq_nil_of_length_eq_zero h0
    refine (places_nil p c w).mono ?_
    rintro e w' ⟨hb, PB, rfl, hP⟩
    exact ⟨_, 1, by rw [plV_nil, layE_nil]; rfl, by rw [plV_nil]; exact hP.q, hb⟩
  · obtain ⟨b, o, rfl, hi⟩ := H.out.at' (by omega)
    refine (places_any b o c l w (Lib.hid hi) (by omega) (by have := H.out.few; omega) (Lib.hid H.out.wf)).mono ?_
    rintro e w' ⟨hb, ⟨hne, rfl⟩ | ⟨hz, PB, rfl, hP⟩⟩
    · have e1 : plV l = [] := by unfold plV; rw [if_neg hne]
      exact ⟨none, 0, by rw [e1]; rfl, by rw [e1]; exact IntsQ.nil _ _, hb⟩
    · have e1 : plV l = sumsTo (szs l (Lb.fin l)) l.length := by unfold plV; rw [if_pos hz]
      exact ⟨_, _, by rw [e1, hz, sumsTo_len], by rw [e1]; exact hP.q, hb⟩
theorem plR_all (p : Option Addr) (c : Nat) (l : List Itm) (w : World) (H : Hid (Sl w p l)) : Calls Try.prog 15 #[.slice p l.length c] w (RowIs (plV l) (layE l) w) := by
  by_cases h0 : l.length = 0
  · obtain rfl := List.eq_nil_of_length_eq_zero h0
    refine (plR_nil p c w).mono ?_
    rintro e w' ⟨hb, PB, rfl, hP⟩
    exact ⟨_, 1, by rw [plV_nil, layE_nil]; rfl, by rw [plV_nil]; exact hP.q, hb⟩
  · obtain ⟨b, o, rfl, hi⟩ := H.out.at' (by omega)
    refine (plR_any b o c l w (Lib.hid hi) (by omega) H.out.few (Lib.hid H.out.wf)).mono ?_
    rintro e w' ⟨hb, ⟨hne, rfl⟩ | ⟨hz, PB, pc, rfl, hP⟩⟩
    · have e1 : plV l = [] := by unfold plV; rw [if_neg hne]
      exact ⟨none, 0, by rw [e1]; rfl, by rw [e1]; exact IntsQ.nil _ _, hb⟩
    · have e1 : plV l = sumsTo (szs l (Lb.fin l)) l.length := by unfold plV; rw [if_pos hz]
      exact ⟨_, pc, by rw [e1, hz, sumsTo_len], by rw [e1]; exact hP.q, hb⟩
theorem asm_all (p : Option Addr) (c : Nat) (l : List Itm) (w : World) (H : Hid (Sl w p l)) : Calls Try.prog 16 #[.slice p l.length c] w (RowIs (wdV l) (layE l) w) := by
  by_cases h0 : l.length = 0
  · obtain rfl := List.eq_nil_of_length_eq_zero h0
    refine (asm_nil p c w).mono ?_
    rintro e w' ⟨hb, q, d, rfl⟩
    exact ⟨q, d, by rw [wdV_nil, layE_nil]; rfl, by rw [wdV_nil]; exact IntsQ.nil _ _, hb⟩
  · obtain ⟨b, o, rfl, hi⟩ := H.out.at' (by omega)
    refine (asm_any b o c l w (Lib.hid hi) (by omega) (by have := H.out.few; omega) (Lib.hid H.out.wf)).mono ?_
    rintro e w' ⟨hb, ⟨hne, rfl⟩ | ⟨hz, B, d, rfl, hP⟩⟩
    · have e1 : wdV l = [] := by unfold wdV; rw [if_neg hne]
      exact ⟨none, 0, by rw [e1]; rfl, by rw [e1]; exact IntsQ.nil _ _, hb⟩
    · have e1 : wdV l = wordsTo l l.length := by unfold wdV; rw [if_pos hz]
      exact ⟨_, d, by rw [e1, hz], by rw [e1]; exact hP.q, hb⟩
theorem asmR_all (p : Option Addr) (c : Nat) (l : List Itm) (w : World) (H : Hid (Sl w p l)) : Calls Try.prog 17 #[.slice p l.length c] w (RowIs (wdV l) (layE l) w) := by
  by_cases h0 : l.length = 0
  · obtain rfl := List.eq_nil_of_length_eq_zero h0
    refine (asmR_nil p c w).mono ?_
    rintro e w' ⟨hb, rfl⟩
    exact ⟨none, 0, by rw [wdV_nil, layE_nil]; rfl, by rw [wdV_nil]; exact IntsQ.nil _ _, hb⟩
  · obtain ⟨b, o, rfl, hi⟩ := H.out.at' (by omega)
    refine (asmR_any b o c l w (Lib.hid hi) (by omega) H.out.few (Lib.hid H.out.wf)).mono ?_
    rintro e w' ⟨hb, ⟨hne, rfl⟩ | ⟨hz, q, d, rfl, hP⟩⟩
    · have e1 : wdV l = [] := by unfold wdV; rw [if_neg hne]
      exact ⟨none, 0, by rw [e1]; rfl, by rw [e1]; exact IntsQ.nil _ _, hb⟩
    · have e1 : wdV l = wordsTo l l.length := by unfold wdV; rw [if_pos hz]
      exact ⟨q, d, by rw [e1, hz], by rw [e1]; exact hP, hb⟩
theorem find_all (p : Option Addr) (c : Nat) (l : List Itm) (s : ByteArray) (w : World) (H : Hid (Sl w p l)) : Calls Try.prog 19 #[.slice p l.length c, .string s] w fun e w' => e = .returned (.int .i64 (findV l s)) ∧ Both w w' := by
  by_cases h0 : l.length = 0
  · obtain rfl := List.eq_nil_of_length_eq_zero h0
    rw [findV_nil]
    exact find_nil p c s w
  · obtain ⟨b, o, rfl, hi⟩ := H.out.at' (by omega)
    exact find_any b o c l s w (Lib.hid hi) (by omega) (by have := H.out.few; omega) (Lib.hid H.out.wf)
theorem findR_all (p : Option Addr) (c : Nat) (l : List Itm) (s : ByteArray) (w : World) (H : Hid (Sl w p l)) : Calls Try.prog 20 #[.slice p l.length c, .string s] w fun e w' => e = .returned (.int .i64 (findV l s)) ∧ Both w w' := by
  by_cases h0 : l.length = 0
  · obtain rfl := List.eq_nil_of_length_eq_zero h0
    rw [findV_nil]
    exact findR_nil p c s w
  · obtain ⟨b, o, rfl, hi⟩ := H.out.at' (by omega)
    exact findR_any b o c l s w (Lib.hid hi) (by omega) H.out.few (Lib.hid H.out.wf)
theorem plV_len (l : List Itm) : (plV l).length ≤ l.length + 1 := by
  unfold plV
  split
  · rw [sumsTo_len]; exact Nat.le_refl _
  · simp
theorem wdV_len {l : List Itm} (h : ∀ x ∈ l, Itm.wf x) (h20 : l.length ≤ 20) : (wdV l).length ≤ 81920 := by
  unfold wdV
  split
  · rename_i hz
    have hR : allRight l := fun x hx => ⟨(layE_ok hz).2.1 x hx, h x hx⟩
    have := wordsTo_len hR l.length
    omega
  · simp
end Go.Proofs.Ytjjbfeoidceiiaa
