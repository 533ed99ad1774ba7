/- Values of images that both texts reckon, and contracts stated over them: own ones and the document's. -/
import Derived.Test.YtbfmlbcjggplgaaGreatDoorIFind
import Derived.Test.YtbfmlbcjggplgaaGreatDoorISame2
import Derived.Test.YtbfmlbcjggplgaaGreatDoorIRefD
import Derived.Test.YtbfmlbcjggplgaaGreatDoorIParse3
import Derived.Test.YtbfmlbcjggplgaaGreatDoorIBackP
import Derived.Test.YtbfmlbcjggplgaaGreatDoorIFit
import Derived.Test.YtbfmlbcjggplgaaGreatDoorIAwk2
import Derived.Test.YtbfmlbcjggplgaaGreatDoorIRefM
import Derived.BigRegion
import Derived.Deep.LoopGhost
import Derived.Deep.DeepCutAuto
import Derived.Deep.CutBlock
namespace Go.Proofs.YtbfmlbcjggplgaaGreatDoor
open Go.RowKit Im
set_option linter.unusedVariables false
set_option linter.unusedSimpArgs false
def sumV (m : Img) : Int := if right m = true then (sumOf (body m) : Int) else 0
def prT (m : Img) : ByteArray := if right m = true then str (text m) else ⟨#[]⟩
def prE (m : Img) : Int := if right m = true then 0 else 1
def findV (m : Img) (name : ByteArray) : Int := if right m = true then (match m.syms.find? (fun x => decide (x.name = name)) with | some x => x.place | none => -1) else -1
theorem sum_any {wp sp : Option Addr} {wc sc : Nat} {m : Img} {r : Int} (h : sumV m = r) (w : World) (H : Hid (ImgAt w wp sp m)) (hP : PowAt w) :
    Calls Tryz.prog 11 #[imgV wp sp wc sc m] w fun e w' => e = .returned (.int .i64 r) ∧ Bel w w' := by
  unfold sumV at h
  by_cases hr : right m = true
  · rw [if_pos hr] at h
    exact sum_yes hr h w H hP
  · rw [if_neg hr] at h
    subst h
    exact sum_no (by simpa using hr) w H
theorem rSum_any {wp sp : Option Addr} {wc sc : Nat} {m : Img} {r : Int} (h : sumV m = r) (w : World) (H : Hid (ImgAt w wp sp m)) :
    Calls Tryz.prog 12 #[imgV wp sp wc sc m] w fun e w' => e = .returned (.int .i64 r) ∧ Bel w w' := by
  unfold sumV at h
  by_cases hr : right m = true
  · rw [if_pos hr] at h
    exact rSum_lit hr h w H
  · rw [if_neg hr] at h
    subst h
    exact rSum_no (by simpa using hr) w H
theorem print_any {wp sp : Option Addr} {wc sc : Nat} {m : Img} {T : ByteArray} {E : Int} (h : prT m = T) (h2 : prE m = E) (w : World) (H : Hid (ImgAt w wp sp m)) (hP : PowAt w) :
    Calls Tryz.prog 7 #[imgV wp sp wc sc m] w fun e w' => e = .returned (.tuple #[.string T, .int .i64 E]) ∧ Bel w w' := by
  unfold prT at h
  unfold prE at h2
  by_cases hr : right m = true
  · rw [if_pos hr] at h h2
    subst h2
    exact print_yes hr h w H hP
  · rw [if_neg hr] at h h2
    subst h h2
    exact print_no (by simpa using hr) w H
theorem rPrint_any {wp sp : Option Addr} {wc sc : Nat} {m : Img} {T : ByteArray} {E : Int} (h : prT m = T) (h2 : prE m = E) (w : World) (H : Hid (ImgAt w wp sp m)) :
    Calls Tryz.prog 8 #[imgV wp sp wc sc m] w fun e w' => e = .returned (.tuple #[.string T, .int .i64 E]) ∧ Bel w w' := by
  unfold prT at h
  unfold prE at h2
  by_cases hr : right m = true
  · rw [if_pos hr] at h h2
    subst h2
    exact rPrint_yes hr h w H
  · rw [if_neg hr] at h h2
    subst h h2
    exact rPrint_no (by simpa using hr) w H
theorem find_some {m : Img} {name : ByteArray} {x : Sym} (h : m.syms.find? (fun x => decide (x.name = name)) = some x) : ∃ j, m.syms[j]? = some ⟨name, x.place⟩ ∧ ∀ (i : Nat) (y : Sym), i < j → m.syms[i]? = some y → y.name ≠ name := by
  obtain ⟨hp, l1, l2, hl, ha⟩ := List.find?_eq_some_iff_append.1 h
  have hn : x.name = name := of_decide_eq_true hp
  refine ⟨l1.length, ?_, fun i y hi hy => ?_⟩
  · rw [hl, List.getElem?_append_right (Nat.le_refl _), Nat.sub_self]
    simp only [List.getElem?_cons_zero]
    rw [← hn]
  · rw [hl, List.getElem?_append_left hi] at hy
    have := ha y (List.mem_of_getElem? hy)
    simpa using this
theorem find_nil {m : Img} {name : ByteArray} (h : m.syms.find? (fun x => decide (x.name = name)) = none) : ∀ x ∈ m.syms, x.name ≠ name := fun x hx => by
  have := List.find?_eq_none.1 h x hx
  simpa using this
theorem find_any {wp sp : Option Addr} {wc sc : Nat} {m : Img} {name : ByteArray} {r : Int} (h : findV m name = r) (w : World) (H : Hid (ImgAt w wp sp m)) :
    Calls Tryz.prog 13 #[imgV wp sp wc sc m, .string name] w fun e w' => e = .returned (.int .i64 r) ∧ Bel w w' := by
  unfold findV at h
  by_cases hr : right m = true
  · rw [if_pos hr] at h
    cases hf : m.syms.find? (fun x => decide (x.name = name)) with
    | none =>
      rw [hf] at h
      subst h
      exact find_none hr (find_nil hf) w H
    | some x =>
      rw [hf] at h
      subst h
      obtain ⟨j, hj, _⟩ := find_some hf
      exact find_yes hr hj w H
  · rw [if_neg hr] at h
    subst h
    exact find_no (by simpa using hr) w H
theorem rFind_any {wp sp : Option Addr} {wc sc : Nat} {m : Img} {name : ByteArray} {r : Int} (h : findV m name = r) (w : World) (H : Hid (ImgAt w wp sp m)) :
    Calls Tryz.prog 14 #[imgV wp sp wc sc m, .string name] w fun e w' => e = .returned (.int .i64 r) ∧ Bel w w' := by
  unfold findV at h
  by_cases hr : right m = true
  · rw [if_pos hr] at h
    cases hf : m.syms.find? (fun x => decide (x.name = name)) with
    | none =>
      rw [hf] at h
      subst h
      exact rFind_none hr (find_nil hf) w H
    | some x =>
      rw [hf] at h
      subst h
      obtain ⟨j, hj, h2⟩ := find_some hf
      exact rFind_yes hr hj h2 w H
  · rw [if_neg hr] at h
    subst h
    exact rFind_no (by simpa using hr) w H
/-- what Parse tells of a text -/
def OutOf (s : Bs) (m : Img) (E N : Int) : Prop :=
  (Shape s m (sumOf (body m)) ∧ E = 0 ∧ N = 0) ∨ (m = Im.empty ∧ ∃ m' n, Shape s m' n ∧ ¬ n = (sumOf (body m') : Int) ∧ E = 41 ∧ N = (Lib.countByte s 10 : Nat)) ∨ (m = Im.empty ∧ (∀ m' n, ¬ Shape s m' n) ∧ E = 40 ∧ N = 0)
theorem parsed_out {s : Bs} {w w' : World} {e : Ending} (h : Parsed s w e w') : ∃ m wp sp wc sc E N, e = .returned (.tuple #[imgV wp sp wc sc m, .int .i64 E, .int .i64 N]) ∧ ImgAt w' wp sp m ∧ OutOf s m E N ∧ Bel w w' := by
  obtain ⟨hb, ⟨m, hs, wp, sp, wc, sc, he, hI⟩ | ⟨m, n, hs, hn, he⟩ | ⟨hn, he⟩⟩ := h
  · exact ⟨m, wp, sp, wc, sc, 0, 0, he, hI, .inl ⟨hs, rfl, rfl⟩, hb⟩
  · exact ⟨Im.empty, none, none, 0, 0, 41, _, he, ImgAt.empty _ _ _, .inr (.inl ⟨rfl, m, n, hs, hn, rfl, rfl⟩), hb⟩
  · exact ⟨Im.empty, none, none, 0, 0, 40, 0, he, ImgAt.empty _ _ _, .inr (.inr ⟨rfl, hn, rfl, rfl⟩), hb⟩
theorem out_one {s : Bs} {m m' : Img} {E E' N N' : Int} (h : OutOf s m E N) (k : OutOf s m' E' N') : m = m' ∧ E = E' ∧ N = N' := by
  rcases h with ⟨h1, rfl, rfl⟩ | ⟨rfl, a, n, h1, h2, rfl, rfl⟩ | ⟨rfl, h1, rfl, rfl⟩ <;> rcases k with ⟨k1, rfl, rfl⟩ | ⟨rfl, b, l, k1, k2, rfl, rfl⟩ | ⟨rfl, k1, rfl, rfl⟩
  · exact ⟨(shape_inj h1 k1).1, rfl, rfl⟩
  · obtain ⟨rfl, e⟩ := shape_inj h1 k1
    exact absurd e.symm k2
  · exact absurd h1 (k1 _ _)
  · obtain ⟨rfl, e⟩ := shape_inj h1 k1
    exact absurd e h2
  · exact ⟨rfl, rfl, rfl⟩
  · exact absurd h1 (k1 _ _)
  · exact absurd k1 (h1 _ _)
  · exact absurd k1 (h1 _ _)
  · exact ⟨rfl, rfl, rfl⟩
theorem same_self (m : Img) : sameV m m = true := by unfold sameV; simp
end Go.Proofs.YtbfmlbcjggplgaaGreatDoor
/- Images may be, are summed, printed, parsed and told apart as the document says: the law ImageTells, walked. -/
namespace Go.Proofs.YtbfmlbcjggplgaaGreatDoor
open Go.RowKit Im
set_option linter.unusedVariables false
set_option linter.unusedSimpArgs false
theorem pick_nat_of (c : Int) (m : Nat) (hm : 0 < m) : ∃ k : Nat, k < m ∧ pick c (m : Int) = k := by
  have hb := pick_bd c (n := (m : Int)) (by omega)
  obtain ⟨k, hk⟩ := Int.eq_ofNat_of_zero_le hb.1
  exact ⟨k, by omega, hk⟩
/-- texts lie in a block -/
def TextsIn (W : World) (G : Nat) (xs : List ByteArray) : Prop := G < W.heap.size ∧ ∀ (j : Nat) (x : ByteArray), xs[j]? = some x → W.cell? ⟨G, j, none⟩ = some (.string x)
theorem TextsIn.bel {W W2 : World} {G : Nat} {xs : List ByteArray} (h : TextsIn W G xs) (hb : Bel W W2) : TextsIn W2 G xs :=
  ⟨Nat.lt_of_lt_of_le h.1 hb.size, fun j x hx => (hb.cell (p := ⟨G, j, none⟩) h.1).trans (h.2 j x hx)⟩
theorem texts_new (W : World) (xs : List ByteArray) (t : TypeId) : TextsIn (W.alloc (.cells (xs.map Value.string).toArray t)) W.heap.size xs := by
  have hh := heap_alloc_new W (.cells (xs.map Value.string).toArray t)
  refine ⟨lt_of_heap hh, fun j x hx => ?_⟩
  rw [cell_of_heap hh]
  simp [hx]
/-- an image in a box of its own -/
def Bx (W : World) (b : Nat) (p q : Option Addr) (c d : Nat) (m : Img) : Prop := W.heap[b]? = some (.cells (boxV p q c d m) 25 (0, 0))
theorem Bx.bel {W W2 : World} {b : Nat} {p q : Option Addr} {c d : Nat} {m : Img} (h : Bx W b p q c d m) (hb : Bel W W2) : Bx W2 b p q c d m := hb.stays h
theorem bx_new (W : World) (p q : Option Addr) (c d : Nat) (m : Img) : Bx (W.alloc (.cells (boxV p q c d m) 25)) W.heap.size p q c d m := heap_alloc_new W _
theorem Bx.cells {W : World} {b : Nat} {p q : Option Addr} {c d : Nat} {m : Img} (h : Bx W b p q c d m) : W.cell? ⟨b, 0, none⟩ = some (.slice p m.words.length c) ∧ W.cell? ⟨b, 1, none⟩ = some (.int .i64 m.mem) ∧ W.cell? ⟨b, 2, none⟩ = some (.slice q m.syms.length d) := ⟨cell_of_heap h 0, cell_of_heap h 1, cell_of_heap h 2⟩
theorem Bx.lt {W : World} {b : Nat} {p q : Option Addr} {c d : Nat} {m : Img} (h : Bx W b p q c d m) : b < W.heap.size := lt_of_heap h
/-- a box is emptied -/
theorem Bx.zero {W : World} {b : Nat} {p q : Option Addr} {c d : Nat} {m : Img} (h : Bx W b p q c d m) : Bx (((W.setCell ⟨b, 0, none⟩ (.slice none 0 0)).setCell ⟨b, 1, none⟩ (.int .i64 0)).setCell ⟨b, 2, none⟩ (.slice none 0 0)) b none none 0 0 Im.empty := by
  have h1 := heap_set_b3 h 0 (.slice none 0 0)
  have h2 := heap_set_b3 h1 1 (.int .i64 0)
  exact heap_set_b3 h2 2 (.slice none 0 0)
theorem Bx.other {W : World} {b g i : Nat} {v : Value} {p q : Option Addr} {c d : Nat} {m : Img} (h : Bx W b p q c d m) (hne : b ≠ g) : Bx (W.setCell ⟨g, i, none⟩ v) b p q c d m := (heap_setCell_other _ _ _ _ hne).trans h
/-- two images lie in a block -/
def TwoIn (W : World) (G : Nat) (p q : Option Addr) (c d : Nat) (m : Img) (p' q' : Option Addr) (c' d' : Nat) (m' : Img) : Prop := G < W.heap.size ∧ W.cell? ⟨G, 0, none⟩ = some (.slice p m.words.length c) ∧ W.cell? ⟨G, 1, none⟩ = some (.int .i64 m.mem) ∧ W.cell? ⟨G, 2, none⟩ = some (.slice q m.syms.length d) ∧ W.cell? ⟨G, 3, none⟩ = some (.slice p' m'.words.length c') ∧ W.cell? ⟨G, 4, none⟩ = some (.int .i64 m'.mem) ∧ W.cell? ⟨G, 5, none⟩ = some (.slice q' m'.syms.length d')
theorem TwoIn.bel {W W2 : World} {G : Nat} {p q : Option Addr} {c d : Nat} {m : Img} {p' q' : Option Addr} {c' d' : Nat} {m' : Img} (h : TwoIn W G p q c d m p' q' c' d' m') (hb : Bel W W2) : TwoIn W2 G p q c d m p' q' c' d' m' :=
  ⟨Nat.lt_of_lt_of_le h.1 hb.size, (hb.cell (p := ⟨G, 0, none⟩) h.1).trans h.2.1, (hb.cell (p := ⟨G, 1, none⟩) h.1).trans h.2.2.1, (hb.cell (p := ⟨G, 2, none⟩) h.1).trans h.2.2.2.1, (hb.cell (p := ⟨G, 3, none⟩) h.1).trans h.2.2.2.2.1, (hb.cell (p := ⟨G, 4, none⟩) h.1).trans h.2.2.2.2.2.1, (hb.cell (p := ⟨G, 5, none⟩) h.1).trans h.2.2.2.2.2.2⟩
abbrev twoV (p q : Option Addr) (c d : Nat) (m : Img) (p' q' : Option Addr) (c' d' : Nat) (m' : Img) : Array Value := #[.slice p m.words.length c, .int .i64 m.mem, .slice q m.syms.length d, .slice p' m'.words.length c', .int .i64 m'.mem, .slice q' m'.syms.length d']
theorem two_new (W : World) (p q : Option Addr) (c d : Nat) (m : Img) (p' q' : Option Addr) (c' d' : Nat) (m' : Img) : TwoIn (W.alloc (.cells (twoV p q c d m p' q' c' d' m') 25)) W.heap.size p q c d m p' q' c' d' m' := by
  have hh := heap_alloc_new W (.cells (twoV p q c d m p' q' c' d' m') 25)
  exact ⟨lt_of_heap hh, cell_of_heap hh 0, cell_of_heap hh 1, cell_of_heap hh 2, cell_of_heap hh 3, cell_of_heap hh 4, cell_of_heap hh 5⟩
/-- the i-th of them -/
theorem TwoIn.at {W : World} {G : Nat} {p q : Option Addr} {c d : Nat} {m : Img} {p' q' : Option Addr} {c' d' : Nat} {m' : Img} (h : TwoIn W G p q c d m p' q' c' d' m') (hI : ImgAt W p q m) (hJ : ImgAt W p' q' m') {i : Nat} (hi : i < 2) :
    ∃ yp yq yc yd y, W.cell? ⟨G, i * 3, none⟩ = some (.slice yp y.words.length yc) ∧ W.cell? ⟨G, i * 3 + 1, none⟩ = some (.int .i64 y.mem) ∧ W.cell? ⟨G, i * 3 + 2, none⟩ = some (.slice yq y.syms.length yd) ∧ ImgAt W yp yq y := by
  obtain rfl | rfl : i = 0 ∨ i = 1 := by omega
  · exact ⟨p, q, c, d, m, h.2.1, h.2.2.1, h.2.2.2.1, hI⟩
  · exact ⟨p', q', c', d', m', h.2.2.2.2.1, h.2.2.2.2.2.1, h.2.2.2.2.2.2, hJ⟩
set_option maxRecDepth 100000 in
set_option maxHeartbeats 16000000 in
theorem imageTells_any (s more name : ByteArray) {mp mq : Option Addr} {mc md : Nat} {m : Img} {wp sp : Option Addr} {wc sc : Nat} {raw : Img} (at' : Int) (w : World) (hs : s.size ≤ 140737488351232) (hm : more.size ≤ 140737488351232) (hi : inInt at') (H0 : Hid (ImgAt w mp mq m)) (H : Hid (ImgAt w wp sp raw)) (hL : LibAt w) (hS : SpAt w) :
    Calls Tryz.prog 3 #[imgV mp mq mc md m, imgV wp sp wc sc raw, .string s, .int .i64 at', .string more, .string name] w fun e w' => e = .returned (.bool true) ∧ Bel w w' := by
  have HL := Lib.hid hL
  have HSP := Lib.hid hS
  have HI := Lib.hid hi
  clear hL hS hi
  have lw := H0.out.lw
  have ls := H0.out.ls
  have HLW := Lib.hid lw
  clear lw ls
  go_enter Tryz.func3, Tryz.ntmps3
  go_wp2_with fail
  have hm0 := (bx_new w mp mq mc md m).bel ((Bel.refl _).alloc (boxV wp sp wc sc raw) 25)
  have hb0 := ((Bel.refl w).alloc (boxV mp mq mc md m) 25).alloc (boxV wp sp wc sc raw) 25
  have hx0 := bx_new (w.alloc (.cells (boxV mp mq mc md m) 25)) wp sp wc sc raw
  have hz0 : (w.alloc (.cells (boxV mp mq mc md m) 25)).heap.size = w.heap.size + 1 := by unfold World.alloc; exact Array.size_push _
  rw [hz0] at hx0
  generalize (w.alloc (.cells (boxV mp mq mc md m) 25)).alloc (.cells (boxV wp sp wc sc raw) 25) = W0 at hb0 hx0 hm0 ⊢
  generalize w.heap.size + 1 = br at hx0 ⊢
  obtain ⟨bm, hbm⟩ : ∃ b, w.heap.size = b := ⟨_, rfl⟩
  have HBM : Hid (w.heap.size ≤ bm) := Lib.hid (Nat.le_of_eq hbm)
  rw [hbm] at hm0 ⊢
  have HB := Lib.hid hb0
  have HX := Lib.hid hx0
  have HM := Lib.hid hm0
  clear hb0 hx0 hm0 hz0 hbm
  refine (awake_any _ (HL.out.bel HB.out)).mono ?_
  rintro e w1 ⟨rfl, hb⟩
  have HB := Lib.hid (HB.out.trans hb)
  have HX := Lib.hid (HX.out.bel hb)
  have HM := Lib.hid (HM.out.bel hb)
  clear hb
  obtain ⟨c0, c1, c2⟩ := HX.out.cells
  go_wp2_with fail
  refine (fit_own (wp := wp) (sp := sp) (wc := wc) (sc := sc) _ (Lib.hid (H.out.bel HB.out))).mono ?_
  rintro e w2 ⟨hb, p, q, c, d, rfl, hI, hw, hs2⟩
  have HB := Lib.hid (HB.out.trans hb)
  have hml := HM.out.lt
  have HM := Lib.hid (HM.out.bel hb)
  have hr := fit_right raw
  have hpb : ∀ r, p = some r → r.block ≠ bm := by
    obtain ⟨p', c', e1, _, e2⟩ := ERow.form (enc := icell) (k := 1) (fun _ => rfl) hw
    injection e1 with e3 _ _
    subst e3
    exact fun r hr he => by have := (e2 r hr).1; omega
  have hqb : ∀ r, q = some r → r.block ≠ bm := by
    obtain ⟨p', c', e1, _, e2⟩ := ERow.form (enc := scell) (k := 2) (fun _ => rfl) hs2
    injection e1 with e3 _ _
    subst e3
    exact fun r hr he => by have := (e2 r hr).1; omega
  clear hw hs2
  generalize fitV raw = x at hI hr ⊢
  have HR := Lib.hid hr
  have HIX := Lib.hid (hI.bel ((Bel.refl w2).alloc (boxV p q c d x) 25))
  have HPB := Lib.hid hpb
  have HQB := Lib.hid hqb
  have hb3 := HB.out.trans ((Bel.refl w2).alloc (boxV p q c d x) 25)
  have HBX := Lib.hid (bx_new w2 p q c d x)
  have hbx : Hid (w2.heap.size ≠ bm) := Lib.hid (by have := HM.out.lt; omega)
  obtain ⟨a0, a1, a2⟩ := (HM.out.bel ((Bel.refl w2).alloc (boxV p q c d x) 25)).cells
  have HM := Lib.hid (HM.out.bel ((Bel.refl w2).alloc (boxV p q c d x) 25))
  clear hr hI hb c0 c1 c2 HX hml hpb hqb
  go_upto_if 42 with (fail)
  clear a0 a1 a2
  have HB := Lib.hid hb3
  clear hb3
  generalize w2.alloc (.cells (boxV p q c d x) 25) = W3 at HIX HBX HM HB ⊢
  generalize w2.heap.size = bx at HBX hbx ⊢
  go_cut [] (fun wx => ∃ mp mq mc md m, Hid (Bel w wx) ∧ Hid (Bx wx bm mp mq mc md m) ∧ Hid (ImgAt wx mp mq m) ∧ Hid (Bx wx bx p q c d x) ∧ Hid (ImgAt wx p q x))
  case first =>
    by_cases hgt : 50 < wrap64 ((m.words.length : Int) + m.syms.length)
    · obtain ⟨a0, a1, a2⟩ := HM.out.cells
      have f0 : W3.frozen? ⟨bm, 0, none⟩ = false := frozen_of_heap HM.out 0
      have f1 : W3.frozen? ⟨bm, 1, none⟩ = false := frozen_of_heap HM.out 1
      have f2 : W3.frozen? ⟨bm, 2, none⟩ = false := frozen_of_heap HM.out 2
      go_wp2_with fail
      go_meet
      exact ⟨none, none, 0, 0, Im.empty, Lib.hid (bel3 HB.out HBM.out _ _ _), Lib.hid HM.out.zero, Lib.hid (ImgAt.empty _ _ _), Lib.hid (((HBX.out.other hbx.out).other hbx.out).other hbx.out), Lib.hid (((HIX.out.set HPB.out HQB.out _).set HPB.out HQB.out _).set HPB.out HQB.out _)⟩
    · go_wp2_with fail
      go_meet
      exact ⟨mp, mq, mc, md, m, HB, HM, Lib.hid (H0.out.bel HB.out), HBX, HIX⟩
  case rest =>
    clear HM HB HBX HIX HPB HQB
    obtain ⟨mp', mq', mc', md', m', HB, HM, HIM, HBX, HIX⟩ := hcut
    obtain ⟨a0, a1, a2⟩ := HM.out.cells
    obtain ⟨b0, b1, b2⟩ := HBX.out.cells
    go_wp2_with fail
    clear a0 a1 a2 b0 b1 b2
    have hf := two_new wc mp' mq' mc' md' m' p q c d x
    have hbf := (Bel.refl wc).alloc (twoV mp' mq' mc' md' m' p q c d x) 25
    generalize wc.alloc (.cells (twoV mp' mq' mc' md' m' p q c d x) 25) = W5 at hf hbf ⊢
    generalize wc.heap.size = G at hf ⊢
    have HF := Lib.hid hf
    have HB := Lib.hid (HB.out.trans hbf)
    have HBX := Lib.hid (HBX.out.bel hbf)
    have HIX := Lib.hid (HIX.out.bel hbf)
    have HIM := Lib.hid (HIM.out.bel hbf)
    clear hf hbf HM hbx HBM
    go_loopg [48] 2 (fun gk ii wr => ∃ i : Nat, i + gk = 2 ∧ ii = .int .i64 i ∧ Hid (Bel W5 wr))
    case atStart => exact ⟨0, by omega, rfl, Lib.hid (Bel.refl _)⟩
    case round =>
      obtain ⟨i, hig, rfl, HBi⟩ := hrel
      by_cases hi2 : i < 2
      · obtain ⟨yp, yq, yc, yd, y, y0, y1, y2, hIY⟩ := (HF.out.bel HBi.out).at (HIM.out.bel HBi.out) (HIX.out.bel HBi.out) hi2
        have hk1 : (i : Int) < 2 := by omega
        go_upto_region 8 with (fail)
        have hby := bx_new wr yp yq yc yd y
        have hbb := (Bel.refl wr).alloc (boxV yp yq yc yd y) 25
        clear y0 y1 y2
        generalize wr.alloc (.cells (boxV yp yq yc yd y) 25) = W6 at hby hbb ⊢
        generalize wr.heap.size = gy at hby ⊢
        have HBi := Lib.hid (HBi.out.trans hbb)
        have HY := Lib.hid hby
        have HIY := Lib.hid (hIY.bel hbb)
        clear hby hbb hIY
        obtain ⟨T, hT⟩ : ∃ T, prT y = T := ⟨_, rfl⟩
        obtain ⟨E, hE⟩ : ∃ E, prE y = E := ⟨_, rfl⟩
        have HT := Lib.hid hT
        have HE := Lib.hid hE
        clear hT hE
        obtain ⟨y0, y1, y2⟩ := HY.out.cells
        go_wp2_with fail
        refine (print_any (wp := yp) (sp := yq) (wc := yc) (sc := yd) HT.out HE.out _ HIY (HL.out.bel (HB.out.trans HBi.out)).2.1).mono ?_
        rintro e W7 ⟨rfl, hb⟩
        have HBi := Lib.hid (HBi.out.trans hb)
        have HY := Lib.hid (HY.out.bel hb)
        have HIY := Lib.hid (HIY.out.bel hb)
        clear hb y0 y1 y2
        obtain ⟨y0, y1, y2⟩ := HY.out.cells
        go_wp2_with fail
        refine (rPrint_any (wp := yp) (sp := yq) (wc := yc) (sc := yd) HT.out HE.out _ HIY).mono ?_
        rintro e W8 ⟨rfl, hb⟩
        have HBi := Lib.hid (HBi.out.trans hb)
        have HY := Lib.hid (HY.out.bel hb)
        have HIY := Lib.hid (HIY.out.bel hb)
        clear hb y0 y1 y2 HT HE
        have HIX8 := Lib.hid (HIX.out.bel HBi.out)
        have HBX8 := Lib.hid (HBX.out.bel HBi.out)
        have HL8 := Lib.hid (HL.out.bel (HB.out.trans HBi.out))
        obtain ⟨r1, hr1⟩ : ∃ r, right y = r := ⟨_, rfl⟩
        obtain ⟨s1, hs1⟩ : ∃ r, sumV y = r := ⟨_, rfl⟩
        obtain ⟨f1, hf1⟩ : ∃ r, findV y name = r := ⟨_, rfl⟩
        obtain ⟨f2, hf2⟩ : ∃ r, findV y ⟨#[97, 98]⟩ = r := ⟨_, rfl⟩
        obtain ⟨m1, hm1⟩ : ∃ r, sameV y x = r := ⟨_, rfl⟩
        have HR1 := Lib.hid hr1
        have HS1 := Lib.hid hs1
        have HF1 := Lib.hid hf1
        have HF2 := Lib.hid hf2
        have HSM := Lib.hid hm1
        clear hr1 hs1 hf1 hf2 hm1
        have v1 : (T.toList != T.toList) = false := bne_self_eq_false _
        have v2 : (E != E) = false := bne_self_eq_false _
        have v3 : (r1 != r1) = false := bne_self_eq_false _
        have v4 : (s1 != s1) = false := bne_self_eq_false _
        have v5 : (f1 != f1) = false := bne_self_eq_false _
        have v6 : (f2 != f2) = false := bne_self_eq_false _
        have v7 : (m1 != m1) = false := bne_self_eq_false _
        go_upto_region 10 with (fail)
        have HKEEP : Hid (∀ w', Bel W8 w' → w'.cell? ⟨gy, 0, none⟩ = some (.slice yp y.words.length yc) ∧ w'.cell? ⟨gy, 1, none⟩ = some (.int .i64 y.mem) ∧ w'.cell? ⟨gy, 2, none⟩ = some (.slice yq y.syms.length yd) ∧ w'.cell? ⟨bx, 0, none⟩ = some (.slice p x.words.length c) ∧ w'.cell? ⟨bx, 1, none⟩ = some (.int .i64 x.mem) ∧ w'.cell? ⟨bx, 2, none⟩ = some (.slice q x.syms.length d)) := Lib.hid (fun w' h => by
          obtain ⟨e0, e1, e2⟩ := (HY.out.bel h).cells
          obtain ⟨e3, e4, e5⟩ := (HBX8.out.bel h).cells
          exact ⟨e0, e1, e2, e3, e4, e5⟩)
        go_region_held3 (fun w' => w'.cell? ⟨gy, 0, none⟩ = some (.slice yp y.words.length yc) ∧ w'.cell? ⟨gy, 1, none⟩ = some (.int .i64 y.mem) ∧ w'.cell? ⟨gy, 2, none⟩ = some (.slice yq y.syms.length yd) ∧ w'.cell? ⟨bx, 0, none⟩ = some (.slice p x.words.length c) ∧ w'.cell? ⟨bx, 1, none⟩ = some (.int .i64 x.mem) ∧ w'.cell? ⟨bx, 2, none⟩ = some (.slice q x.syms.length d))
          (first | exact HKEEP.out _ ((((((((((((Bel.refl _).drew).trans hb11).trans hb12).trans hb13).trans hb14).trans hb15).trans hb16).trans hb17).trans hb18).trans hb19).trans hb20) | exact HKEEP.out _ (((((((((((Bel.refl _).drew).trans hb11).trans hb12).trans hb13).trans hb14).trans hb15).trans hb16).trans hb17).trans hb18).trans hb19) | exact HKEEP.out _ ((((((((((Bel.refl _).drew).trans hb11).trans hb12).trans hb13).trans hb14).trans hb15).trans hb16).trans hb17).trans hb18) | exact HKEEP.out _ (((((((((Bel.refl _).drew).trans hb11).trans hb12).trans hb13).trans hb14).trans hb15).trans hb16).trans hb17) | exact HKEEP.out _ ((((((((Bel.refl _).drew).trans hb11).trans hb12).trans hb13).trans hb14).trans hb15).trans hb16) | exact HKEEP.out _ (((((((Bel.refl _).drew).trans hb11).trans hb12).trans hb13).trans hb14).trans hb15) | exact HKEEP.out _ ((((((Bel.refl _).drew).trans hb11).trans hb12).trans hb13).trans hb14) | exact HKEEP.out _ (((((Bel.refl _).drew).trans hb11).trans hb12).trans hb13) | exact HKEEP.out _ ((((Bel.refl _).drew).trans hb11).trans hb12) | exact HKEEP.out _ (((Bel.refl _).drew).trans hb11) | exact HKEEP.out _ ((Bel.refl _).drew))
          (first
          | (go_at_call 9; refine (right_lit (wp := yp) (sp := yq) (wc := yc) (sc := yd) HR1.out _ (Lib.hid (HIY.out.bel ((Bel.refl _).drew)))).mono ?_; rintro e w' ⟨rfl, hb11⟩)
          | (go_at_call 10; refine (rRight_lit (wp := yp) (sp := yq) (wc := yc) (sc := yd) HR1.out _ (Lib.hid (HIY.out.bel (((Bel.refl _).drew).trans hb11)))).mono ?_; rintro e w' ⟨rfl, hb12⟩)
          | (go_at_call 11; refine (sum_any (wp := yp) (sp := yq) (wc := yc) (sc := yd) HS1.out _ (Lib.hid (HIY.out.bel ((((Bel.refl _).drew).trans hb11).trans hb12))) (HL8.out.bel ((((Bel.refl _).drew).trans hb11).trans hb12)).2.1).mono ?_; rintro e w' ⟨rfl, hb13⟩)
          | (go_at_call 12; refine (rSum_any (wp := yp) (sp := yq) (wc := yc) (sc := yd) HS1.out _ (Lib.hid (HIY.out.bel (((((Bel.refl _).drew).trans hb11).trans hb12).trans hb13)))).mono ?_; rintro e w' ⟨rfl, hb14⟩)
          | (go_at_call 13; with_reducible refine (find_any (wp := yp) (sp := yq) (wc := yc) (sc := yd) HF1.out _ (Lib.hid (HIY.out.bel ((((((Bel.refl _).drew).trans hb11).trans hb12).trans hb13).trans hb14)))).mono ?_; rintro e w' ⟨rfl, hb15⟩)
          | (go_at_call 14; with_reducible refine (rFind_any (wp := yp) (sp := yq) (wc := yc) (sc := yd) HF1.out _ (Lib.hid (HIY.out.bel (((((((Bel.refl _).drew).trans hb11).trans hb12).trans hb13).trans hb14).trans hb15)))).mono ?_; rintro e w' ⟨rfl, hb16⟩)
          | (go_at_call 13; with_reducible refine (find_any (wp := yp) (sp := yq) (wc := yc) (sc := yd) HF2.out _ (Lib.hid (HIY.out.bel ((((((((Bel.refl _).drew).trans hb11).trans hb12).trans hb13).trans hb14).trans hb15).trans hb16)))).mono ?_; rintro e w' ⟨rfl, hb17⟩)
          | (go_at_call 14; with_reducible refine (rFind_any (wp := yp) (sp := yq) (wc := yc) (sc := yd) HF2.out _ (Lib.hid (HIY.out.bel (((((((((Bel.refl _).drew).trans hb11).trans hb12).trans hb13).trans hb14).trans hb15).trans hb16).trans hb17)))).mono ?_; rintro e w' ⟨rfl, hb18⟩)
          | (go_at_call 15; refine (same_lit (p := yp) (q := yq) (c := yc) (d := yd) (p' := p) (q' := q) (c' := c) (d' := d) HSM.out _ (Lib.hid (HIY.out.bel ((((((((((Bel.refl _).drew).trans hb11).trans hb12).trans hb13).trans hb14).trans hb15).trans hb16).trans hb17).trans hb18))) (Lib.hid (HIX8.out.bel ((((((((((Bel.refl _).drew).trans hb11).trans hb12).trans hb13).trans hb14).trans hb15).trans hb16).trans hb17).trans hb18)))).mono ?_; rintro e w' ⟨rfl, hb19⟩)
          | (go_at_call 16; refine (rSame_lit (p := yp) (q := yq) (c := yc) (d := yd) (p' := p) (q' := q) (c' := c) (d' := d) HSM.out _ (Lib.hid (HIY.out.bel (((((((((((Bel.refl _).drew).trans hb11).trans hb12).trans hb13).trans hb14).trans hb15).trans hb16).trans hb17).trans hb18).trans hb19))) (Lib.hid (HIX8.out.bel (((((((((((Bel.refl _).drew).trans hb11).trans hb12).trans hb13).trans hb14).trans hb15).trans hb16).trans hb17).trans hb18).trans hb19)))).mono ?_; rintro e w' ⟨rfl, hb20⟩))
        have HBi := Lib.hid (HBi.out.trans ((((((((((((Bel.refl _).drew).trans hb11).trans hb12).trans hb13).trans hb14).trans hb15).trans hb16).trans hb17).trans hb18).trans hb19).trans hb20))
        clear hb11 hb12 hb13 hb14 hb15 hb16 hb17 hb18 hb19 hb20 HKEEP HR1 HS1 HF1 HF2 HSM
        rename_i hh
        clear hh
        go_wp2_with fail
        go_roundg (gk - 1)
        case measure => omega
        case rel => exact ⟨i + 1, by omega, by go_num, HBi⟩
      · obtain rfl : i = 2 := by omega
        have HB := Lib.hid (HB.out.trans HBi.out)
        have HIX := Lib.hid (HIX.out.bel HBi.out)
        have HBX := Lib.hid (HBX.out.bel HBi.out)
        clear HBi HF HIM
        obtain ⟨T, hT⟩ : ∃ T, prT x = T := ⟨_, rfl⟩
        obtain ⟨E, hE⟩ : ∃ E, prE x = E := ⟨_, rfl⟩
        have hTs : T.size ≤ 700013 := by
          rw [← hT]
          unfold prT
          rw [if_pos HR.out, str_size]
          exact text_len HR.out
        have HT := Lib.hid hT
        have HE := Lib.hid hE
        clear hT hE
        obtain ⟨b0, b1, b2⟩ := HBX.out.cells
        go_wp2_with fail
        refine (rPrint_any (wp := p) (sp := q) (wc := c) (sc := d) HT.out HE.out _ HIX).mono ?_
        rintro e wc0 ⟨rfl, hb⟩
        have HB := Lib.hid (HB.out.trans hb)
        clear hb b0 b1 b2 HT HE HIX HBX HR
        obtain ⟨k, hk, hpk⟩ := pick_nat_of at' (T.size + 1) (by omega)
        have HPK : Hid (pick at' ((T.size : Int) + 1) = (k : Int)) := Lib.hid (by rw [← hpk]; rfl)
        clear hpk
        go_wp2_with (go_at_call 17; ((with_reducible refine (pick_lit HPK.out HI.out (by omega) _).mono ?_); rintro e w' ⟨rfl, rfl⟩))
        have hk2 : k ≤ T.size := by omega
        have hk3 : (k : Int) ≤ T.size := by omega
        have y1 : (T.extract 0 k).size = k := by rw [ByteArray.size_extract]; omega
        have y2 : (T.extract k T.size).size = T.size - k := by rw [ByteArray.size_extract]; omega
        have z1 : (T.extract 0 k).size + more.size ≤ 9223372036854775807 := by omega
        have z2 : (T.extract 0 k ++ more).size + (T.extract k T.size).size ≤ 9223372036854775807 := by rw [ByteArray.size_append]; omega
        clear y1 y2
        have hj1 : min ((k : Int) + more.size) T.size = ((min (k + more.size) T.size : Nat) : Int) := by omega
        obtain ⟨j, hj⟩ : ∃ j, min (k + more.size) T.size = j := ⟨_, rfl⟩
        rw [hj] at hj1
        have hj2 : j ≤ T.size := by omega
        have hj3 : (j : Int) ≤ T.size := by omega
        have z3 : (T.extract 0 k ++ more).size + (T.extract j T.size).size ≤ 9223372036854775807 := by rw [ByteArray.size_append, ByteArray.size_extract, ByteArray.size_extract]; omega
        have hif : (if (T.size : Int) < (k : Int) + more.size then (T.size : Int) else (k : Int) + more.size).toNat = j := by split <;> omega
        have hif2 : (if (T.size : Int) < (k : Int) + more.size then (T.size : Int) else (k : Int) + more.size) = (j : Int) := by split <;> omega
        go_region
        clear z1 z2 z3 hj hj1 hj2 hj3 hk hk2 hk3 hif hif2
        generalize T.extract 0 k ++ more ++ T.extract j T.size = x2
        generalize T.extract 0 k ++ more ++ T.extract k T.size = x3
        generalize T.extract 0 k = x4
        have HF := Lib.hid ((texts_new wc0 [s, T, x2, x3, x4] 9).bel (Bel.refl _).drew)
        have HB2 := Lib.hid ((HB.out.alloc #[.string s, .string T, .string x2, .string x3, .string x4] 9).drew)
        simp only [List.map_cons, List.map_nil] at HF
        generalize (wc0.alloc (.cells #[.string s, .string T, .string x2, .string x3, .string x4] 9)).drew = V0 at HF HB2 ⊢
        generalize wc0.heap.size = G2 at HF ⊢
        obtain ⟨xs, hxs⟩ : ∃ xs, [s, T, x2, x3, x4] = xs := ⟨_, rfl⟩
        have HXS : Hid (xs.length = 5) := Lib.hid (by subst hxs; rfl)
        rw [hxs] at HF
        clear hxs HB HPK hTs
        go_wp2_with fail
        go_loopg [151] 5 (fun gk ii wr => ∃ i : Nat, i + gk = 5 ∧ ii = .int .i64 i ∧ Hid (Bel V0 wr))
        case atStart => exact ⟨0, by omega, rfl, Lib.hid (Bel.refl _)⟩
        case round =>
          obtain ⟨i, hig, rfl, HBi⟩ := hrel
          by_cases hi5 : i < 5
          · obtain ⟨z, hx⟩ : ∃ z, xs[i]? = some z := ⟨_, List.getElem?_eq_getElem (by rw [HXS.out]; exact hi5)⟩
            have cx := (HF.out.bel HBi.out).2 i z hx
            have hk1 : (i : Int) < 5 := by omega
            clear hx
            by_cases hbig : 2000 < z.size
            · have hbig' : (2000 : Int) < (z.size : Int) := by omega
              go_wp2_with fail
              go_roundg (gk - 1)
              case measure => omega
              case rel => exact ⟨i + 1, by omega, by go_num, HBi⟩
            · have hbig' : (z.size : Int) ≤ 2000 := by omega
              have hzs : z.size ≤ 1000000 := by omega
              go_wp2_with fail
              refine (parse_any hzs _ (HL.out.bel (HB2.out.trans HBi.out)) (HSP.out.bel (HB2.out.trans HBi.out))).mono ?_
              rintro e W1 h
              obtain ⟨m1, p1, q1, c1, d1, E1, N1, rfl, hI1, ho1, hb⟩ := parsed_out h
              have HBi := Lib.hid (HBi.out.trans hb)
              have HI1 := Lib.hid hI1
              have HO1 := Lib.hid ho1
              clear hb h hI1 ho1
              go_wp2_with fail
              have hb9 := (Bel.refl W1).alloc (boxV p1 q1 c1 d1 m1) 25
              have hx9 := bx_new W1 p1 q1 c1 d1 m1
              generalize W1.alloc (.cells (boxV p1 q1 c1 d1 m1) 25) = W9 at hb9 hx9 ⊢
              generalize W1.heap.size = b9 at hx9 ⊢
              have HI1 := Lib.hid (HI1.out.bel hb9)
              have HBi := Lib.hid (HBi.out.trans hb9)
              have HX9 := Lib.hid hx9
              clear hb9 hx9
              refine (rParse_any hzs _).mono ?_
              rintro e W2 h
              obtain ⟨m2, p2, q2, c2, d2, E2, N2, rfl, hI2, ho2, hb⟩ := parsed_out h
              obtain ⟨rfl, rfl, rfl⟩ := out_one HO1.out ho2
              have HBi := Lib.hid (HBi.out.trans hb)
              have HI1 := Lib.hid (HI1.out.bel hb)
              have HX9 := Lib.hid (HX9.out.bel hb)
              have HI2 := Lib.hid hI2
              clear hb h hI2 ho2 HO1
              go_upto_region 21 with (fail)
              have hb8 := (Bel.refl W2).alloc (boxV p2 q2 c2 d2 m1) 25
              have hx8 := bx_new W2 p2 q2 c2 d2 m1
              generalize W2.alloc (.cells (boxV p2 q2 c2 d2 m1) 25) = W8 at hb8 hx8 ⊢
              generalize W2.heap.size = b8 at hx8 ⊢
              have HI1 := Lib.hid (HI1.out.bel hb8)
              have HI2 := Lib.hid (HI2.out.bel hb8)
              have HX9 := Lib.hid (HX9.out.bel hb8)
              have HBi := Lib.hid (HBi.out.trans hb8)
              have HX8 := Lib.hid hx8
              clear hb8 hx8
              obtain ⟨a0, a1, a2⟩ := HX9.out.cells
              obtain ⟨e0, e1, e2⟩ := HX8.out.cells
              have v1 : (E1 != E1) = false := bne_self_eq_false _
              have v2 : (N1 != N1) = false := bne_self_eq_false _
              have HSS := Lib.hid (same_self m1)
              go_wp2_with fail
              refine (same_lit (p := p1) (q := q1) (c := c1) (d := d1) (p' := p2) (q' := q2) (c' := c2) (d' := d2) HSS.out _ HI1 HI2).mono ?_
              rintro e W3 ⟨rfl, hb⟩
              have HI1 := Lib.hid (HI1.out.bel hb)
              have HI2 := Lib.hid (HI2.out.bel hb)
              have HX9 := Lib.hid (HX9.out.bel hb)
              have HX8 := Lib.hid (HX8.out.bel hb)
              have HBi := Lib.hid (HBi.out.trans hb)
              clear hb a0 a1 a2 e0 e1 e2
              obtain ⟨a0, a1, a2⟩ := HX9.out.cells
              obtain ⟨e0, e1, e2⟩ := HX8.out.cells
              go_wp2_with fail
              refine (rSame_lit (p := p1) (q := q1) (c := c1) (d := d1) (p' := p2) (q' := q2) (c' := c2) (d' := d2) HSS.out _ HI1 HI2).mono ?_
              rintro e W4 ⟨rfl, hb⟩
              have HBi := Lib.hid (HBi.out.trans hb)
              clear hb a0 a1 a2 e0 e1 e2 HX8 HX9 HI1 HI2
              go_wp2_with fail
              go_roundg (gk - 1)
              case measure => omega
              case rel => exact ⟨i + 1, by omega, by go_num, HBi⟩
          · obtain rfl : i = 5 := by omega
            go_wp2_with fail
            go_ret
            exact ⟨rfl, HB2.out.trans HBi.out⟩
end Go.Proofs.YtbfmlbcjggplgaaGreatDoor
