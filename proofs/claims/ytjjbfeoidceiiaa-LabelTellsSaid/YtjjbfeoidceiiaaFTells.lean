/- LabelTells' walk. -/
import Derived.Test.YtjjbfeoidceiiaaFAll
import Derived.Test.YtjjbfeoidceiiaaFPl2
namespace Go.Proofs.Ytjjbfeoidceiiaa
open Go.RowKit Rv Lb
set_option linter.unusedVariables false
/-- another item in one's place -/
def put8 (W : World) (DB q : Nat) (x : Itm) : World := (((((((W.setCell ⟨DB, q, none⟩ (.int .i64 x.kind)).setCell ⟨DB, q + 1, none⟩ (.int .i64 x.i.op)).setCell ⟨DB, q + 2, none⟩ (.int .i64 x.i.d)).setCell ⟨DB, q + 3, none⟩ (.int .i64 x.i.a)).setCell ⟨DB, q + 4, none⟩ (.int .i64 x.i.b)).setCell ⟨DB, q + 5, none⟩ (.int .i64 x.i.n)).setCell ⟨DB, q + 6, none⟩ (.string x.name)).setCell ⟨DB, q + 7, none⟩ (.int .i64 x.n)
theorem set_step {w : World} {DB q : Nat} {cs : List Value} {t : TypeId} (h : w.heap[DB]? = some (.cells cs.toArray t (0, 0))) (v : Value) : (w.setCell ⟨DB, q, none⟩ v).heap[DB]? = some (.cells (cs.set q v).toArray t (0, 0)) := by
  rw [setCell_eq_setRow w DB q cs.toArray t (0, 0) v h]
  have := setRow_heap w DB cs.toArray (cs.toArray.setIfInBounds q v) t (0, 0) h
  rw [this]
  simp
theorem put8_heap {w : World} {DB q : Nat} {cs : List Value} {t : TypeId} {x : Itm} (h : w.heap[DB]? = some (.cells cs.toArray t (0, 0))) :
    (put8 w DB q x).heap[DB]? = some (.cells ((((((((cs.set q (.int .i64 x.kind)).set (q + 1) (.int .i64 x.i.op)).set (q + 2) (.int .i64 x.i.d)).set (q + 3) (.int .i64 x.i.a)).set (q + 4) (.int .i64 x.i.b)).set (q + 5) (.int .i64 x.i.n)).set (q + 6) (.string x.name)).set (q + 7) (.int .i64 x.n)).toArray t (0, 0)) :=
  set_step (set_step (set_step (set_step (set_step (set_step (set_step (set_step h _) _) _) _) _) _) _) _
theorem put8_both {w0 w : World} {DB q : Nat} {x : Itm} (h : Both w0 w) (hf : w0.heap.size ≤ DB) : Both w0 (put8 w DB q x) :=
  (((((((h.setCell (p := ⟨DB, q, none⟩) hf _).setCell (p := ⟨DB, q + 1, none⟩) hf _).setCell (p := ⟨DB, q + 2, none⟩) hf _).setCell (p := ⟨DB, q + 3, none⟩) hf _).setCell (p := ⟨DB, q + 4, none⟩) hf _).setCell (p := ⟨DB, q + 5, none⟩) hf _).setCell (p := ⟨DB, q + 6, none⟩) hf _).setCell (p := ⟨DB, q + 7, none⟩) hf _
theorem set8_get {l : List Itm} {k : Nat} {x : Itm} (hk : k < l.length) : ∀ (cs : List Value), (∀ j y, l[j]? = some y → ∀ q u, (cells8 y)[q]? = some u → cs[j * 8 + q]? = some u) → l.length * 8 ≤ cs.length →
    ∀ j y, (l.set k x)[j]? = some y → ∀ q u, (cells8 y)[q]? = some u → ((((((((cs.set (k * 8) (.int .i64 x.kind)).set (k * 8 + 1) (.int .i64 x.i.op)).set (k * 8 + 2) (.int .i64 x.i.d)).set (k * 8 + 3) (.int .i64 x.i.a)).set (k * 8 + 4) (.int .i64 x.i.b)).set (k * 8 + 5) (.int .i64 x.i.n)).set (k * 8 + 6) (.string x.name)).set (k * 8 + 7) (.int .i64 x.n))[j * 8 + q]? = some u := by
  intro cs h hlen j y hj q u hu
  have hq : q < 8 := by have := (List.getElem?_eq_some_iff.1 hu).1; simpa [cells8] using this
  by_cases e : j = k
  · subst e
    rw [List.getElem?_set_self hk] at hj
    obtain rfl := Option.some.inj hj
    have h8 : q = 0 ∨ q = 1 ∨ q = 2 ∨ q = 3 ∨ q = 4 ∨ q = 5 ∨ q = 6 ∨ q = 7 := by omega
    rcases h8 with rfl | rfl | rfl | rfl | rfl | rfl | rfl | rfl
    all_goals
      simp only [cells8, List.getElem?_cons_zero, List.getElem?_cons_succ, Option.some.injEq] at hu
      subst hu
      simp only [List.getElem?_set, List.length_set]
      simp
      omega
  · rw [List.getElem?_set_ne (by omega)] at hj
    have := h j y hj q u hu
    simp only [List.getElem?_set]
    have hne : ∀ i, i < 8 → ¬ (k * 8 + i = j * 8 + q) := fun i hi c => by omega
    rw [if_neg (hne 7 (by omega)), if_neg (hne 6 (by omega)), if_neg (hne 5 (by omega)), if_neg (hne 4 (by omega)), if_neg (hne 3 (by omega)), if_neg (hne 2 (by omega)), if_neg (hne 1 (by omega)), if_neg (by have := hne 0 (by omega); simpa using this)]
    exact this
theorem items_put {w : World} {base DB dc k : Nat} {L : List Itm} {x : Itm} (h : XRow w base (.slice (some ⟨DB, 0, none⟩) L.length dc) L) (hk : k < L.length) : ItemsAt (put8 w DB (k * 8) x) DB 0 (L.set k x) := by
  rcases h.2 with ⟨hv, _⟩ | ⟨g, cap, cur, hv, hb, hg, hnc, hcm, hcs, htake⟩
  · cases hv
  · obtain rfl : DB = g := by
      simp only [Value.slice.injEq, Option.some.injEq, Addr.mk.injEq] at hv
      exact hv.1.1
    have hg' : w.heap[DB]? = some (.cells cur.toList.toArray 26 (0, 0)) := by rw [Array.toArray_toList]; exact hg
    have h8 := put8_heap (q := k * 8) (x := x) hg'
    refine ⟨lt_of_heap h8, fun j y hj q u hu => ?_⟩
    rw [Nat.zero_add]
    have hget := set8_get hk cur.toList (fun j y hj q u hu => by
      have h1 := flat8_get hj hu
      rw [← htake] at h1
      rw [List.getElem?_take] at h1
      split at h1
      · exact h1
      · cases h1) (by rw [show cur.toList.length = cap * 8 from (Array.length_toList (xs := cur)).trans hcs]; exact Nat.mul_le_mul_right _ hnc) j y hj q u hu
    have := cell_of_heap h8 (j * 8 + q)
    rw [List.getElem?_toArray, hget] at this
    exact this
def Meet (A : Act) (W : World) : Exit → Act → World → Prop
  | .normal, a, w => a = A ∧ w = W
  | _, _, _ => False
theorem wp_meet2 {P : Program} {c : Code} {Q : Exit → Act → World → Prop} {a : Act} {w : World} (A : Act) (W : World) (h : c.wp P (Meet A W) a w) (hq : Q .normal A W) : c.wp P Q a w :=
  Code.wp_mono (fun e a' w' q => by
    cases e with
    | normal => obtain ⟨rfl, rfl⟩ := q; exact hq
    | _ => exact absurd q id) h
theorem wp_gen {P : Program} {c : Code} {Q : Exit → Act → World → Prop} {a : Act} {W : World} (F : World → Prop) (hF : F W) (h : ∀ W, F W → c.wp P Q a W) : c.wp P Q a W := h W hF
/-- one of three slices of items -/
structure Th (w : World) (SB : Nat) (f : Nat → Option Addr) (g : Nat → Nat) (L : Nat → List Itm) : Prop where
  lt : SB < w.heap.size
  cell : ∀ j, j < 3 → w.cell? ⟨SB, j, none⟩ = some (.slice (f j) (L j).length (g j))
  sl : ∀ j, j < 3 → Sl w (f j) (L j)
theorem Th.both {w w' : World} {SB : Nat} {f : Nat → Option Addr} {g : Nat → Nat} {L : Nat → List Itm} (h : Th w SB f g L) (hb : Both w w') : Th w' SB f g L :=
  ⟨Nat.lt_of_lt_of_le h.lt hb.1.size, fun j hj => (hb.cell (p := ⟨SB, j, none⟩) h.lt).trans (h.cell j hj), fun j hj => (h.sl j hj).both hb⟩
def pick3L {α : Type} (a b c : α) (j : Nat) : α := match j with | 0 => a | 1 => b | _ => c
theorem th_new {w : World} {q0 q1 q2 : Option Addr} {c0 c1 c2 : Nat} {l0 l1 l2 : List Itm} (t : TypeId) (h0 : Sl w q0 l0) (h1 : Sl w q1 l1) (h2 : Sl w q2 l2) :
    Th (w.alloc (.cells #[.slice q0 l0.length c0, .slice q1 l1.length c1, .slice q2 l2.length c2] t)) w.heap.size (pick3L q0 q1 q2) (pick3L c0 c1 c2) (pick3L l0 l1 l2) := by
  have hb : Both w (w.alloc (.cells #[.slice q0 l0.length c0, .slice q1 l1.length c1, .slice q2 l2.length c2] t)) := (Both.refl w).alloc _ _
  have hn := heap_alloc_new w (.cells #[.slice q0 l0.length c0, .slice q1 l1.length c1, .slice q2 l2.length c2] t)
  refine ⟨lt_of_heap hn, fun j hj => ?_, fun j hj => ?_⟩
  · have h3 : j = 0 ∨ j = 1 ∨ j = 2 := by omega
    rcases h3 with rfl | rfl | rfl
    · exact cell_of_heap hn 0
    · exact cell_of_heap hn 1
    · exact cell_of_heap hn 2
  · have h3 : j = 0 ∨ j = 1 ∨ j = 2 := by omega
    rcases h3 with rfl | rfl | rfl
    · exact h0.both hb
    · exact h1.both hb
    · exact h2.both hb
set_option maxRecDepth 100000 in
set_option maxHeartbeats 16000000 in
theorem tells_law (p0 : Option Addr) (n0 c0 : Nat) (raw0 : List Itm) (p1 : Option Addr) (n1 c1 : Nat) (raw1 : List Itm) (wh : Int) (x : Itm) (s : ByteArray) (d n : Int) (w : World)
    (hl0 : raw0.length = n0) (hm0 : n0 ≤ 9223372036854775807) (HP0 : Hid (1 ≤ n0 → ∃ b o, p0 = some ⟨b, o, none⟩ ∧ ItemsAt w b o raw0)) (HW0 : Hid (∀ x ∈ raw0, Itm.wf x)) (hc0 : n0 ≤ c0)
    (hl1 : raw1.length = n1) (hm1 : n1 ≤ 9223372036854775807) (HP1 : Hid (1 ≤ n1 → ∃ b o, p1 = some ⟨b, o, none⟩ ∧ ItemsAt w b o raw1)) (HW1 : Hid (∀ x ∈ raw1, Itm.wf x))
    (hwh : inInt wh) (hx : Itm.wf x) (hd : inInt d) (hn : inInt n) :
    Calls Try.prog 3 #[.slice p0 n0 c0, .slice p1 n1 c1, .int .i64 wh, .agg #[.int .i64 x.kind, .int .i64 x.i.op, .int .i64 x.i.d, .int .i64 x.i.a, .int .i64 x.i.b, .int .i64 x.i.n, .string x.name, .int .i64 x.n], .string s, .int .i64 d, .int .i64 n] w fun e w' => e = .returned (.bool true) ∧ Both w w' := by
  obtain ⟨xk, ⟨xo, xd, xa, xb, xn⟩, xs, xm⟩ := x
  simp only
  have HNN := Lib.hid hl1
  have HN0 := Lib.hid hl0
  have HWH := Lib.hid hwh
  have HX := Lib.hid hx
  have HD := Lib.hid hd
  have HN := Lib.hid hn
  clear hl0 hl1 hwh hx hd hn
  go_enter Try.func3, Try.ntmps3
  go_upto_region 3 with (first
    | (go_at_call 11; refine (awake_any _).mono ?_; rintro e w1 ⟨rfl, hb1⟩)
    | (go_at_call 12; refine (fit3_any p1 n1 c1 raw1 _ HNN.out hm1 (Lib.hid fun h => by obtain ⟨b, o, e, i⟩ := HP1.out h; exact ⟨b, o, e, i.both (((Both.refl _).alloc _ _).trans hb1)⟩) HW1).mono ?_; rintro e w2 ⟨B, oc, L, rfl, hit, hb2, hok, hcap, hcap2⟩))
  have hpos := hok.pos
  have hmost := hok.most
  have hxc := ((hb1.trans hb2).1.block w.heap.size (by simp)).trans (heap_alloc_new w (.cells #[.int .i64 xk, .int .i64 xo, .int .i64 xd, .int .i64 xa, .int .i64 xb, .int .i64 xn, .string xs, .int .i64 xm] 26))
  have HXC := Lib.hid hxc
  have HOK := Lib.hid hok
  have HIT := Lib.hid hit
  have HB2 := Lib.hid (((Both.refl w).alloc #[.int .i64 xk, .int .i64 xo, .int .i64 xd, .int .i64 xa, .int .i64 xb, .int .i64 xn, .string xs, .int .i64 xm] 26).trans (hb1.trans hb2))
  clear hok hit hb1 hb2 hxc
  obtain ⟨base, hbase⟩ : ∃ b, w2.heap.size = b := ⟨_, rfl⟩
  have HBS := Lib.hid hbase
  have HLL := Lib.hid (show ([] : List Itm).length + L.length ≤ 1000 by simp; omega)
  clear hbase
  go_upto_region 4 with (at_builtin; refine wpList_xrows rfl (.const (.slice none 0 0)) (.tmp 34) rfl base (.slice none 0 0) [] rfl (World.ownsRow_nil _ _ _ _) B 0 oc L rfl HIT.out (Or.inl (by omega)) HLL.out (Nat.le_of_eq HBS.out.symm) ?_; intro v3 w3 h1 h2 h3)
  rw [List.nil_append] at h1
  have hb3 : Both w2 w3 := h2.both (Both.refl _) (fun j hj => by simp [Value.ownBlock] at hj)
  obtain ⟨DB, dc, rfl, hDB, hDit, hfro, hdc, hdc2⟩ := h1.form h3
  obtain ⟨k1, k2⟩ := pick_bd wh (L.length : Int) (by omega)
  obtain ⟨kz, hkz⟩ : ∃ q, pick wh (L.length : Int) = q := ⟨_, rfl⟩
  rw [hkz] at k1 k2
  have HKZ := Lib.hid hkz
  clear hkz
  obtain ⟨k, rfl⟩ := Int.eq_ofNat_of_zero_le k1
  have hk : k < L.length := by omega
  obtain ⟨yk, yo, yd, ya, yb, yn, ym, ys, hy⟩ := items_one (l := L) (k := k) hk
  obtain ⟨g0, g1, g2, g3, g4, g5, g6, g7⟩ := hDit.get hy
  rw [Nat.zero_add] at g0 g1 g2 g3 g4 g5 g6 g7
  have hx3 := (hb3.1.block _ (lt_of_heap HXC.out)).trans HXC.out
  have x0 := cell_of_heap hx3 0
  have x1 := cell_of_heap hx3 1
  have x2 := cell_of_heap hx3 2
  have x3 := cell_of_heap hx3 3
  have x4 := cell_of_heap hx3 4
  have x5 := cell_of_heap hx3 5
  have x6 := cell_of_heap hx3 6
  have x7 := cell_of_heap hx3 7
  simp only [List.getElem?_toArray, List.getElem?_cons_zero, List.getElem?_cons_succ] at x0 x1 x2 x3 x4 x5 x6 x7
  have q0 := hfro (k * 8)
  have q1 := hfro (k * 8 + 1)
  have q2 := hfro (k * 8 + 2)
  have q3 := hfro (k * 8 + 3)
  have q4 := hfro (k * 8 + 4)
  have q5 := hfro (k * 8 + 5)
  have q6 := hfro (k * 8 + 6)
  have q7 := hfro (k * 8 + 7)
  have HROW := Lib.hid h1
  have HB3 := Lib.hid hb3
  have HX3 := Lib.hid hx3
  have HDB := Lib.hid hDB
  clear hfro hDit h1 h2 h3 hb3 hx3 hy hDB
  have hKK : (k : Int) < (L.length : Int) := by omega
  exact wp_meet2 _ _ (by
    go_region_law (first | (go_simp; (with_reducible refine (pick3 HWH.out (by omega) HKZ.out _).mono ?_); rintro e w' ⟨rfl, rfl⟩))
    all_goals exact ⟨rfl, rfl⟩) (by
    show (_ : Exit → Act → World → Prop) Exit.normal _ ((put8 w3 DB (k * 8) ⟨xk, ⟨xo, xd, xa, xb, xn⟩, xs, xm⟩).drew)
    have hbad := (items_put (x := ⟨xk, ⟨xo, xd, xa, xb, xn⟩, xs, xm⟩) HROW.out hk).both (Both.refl _).drew
    have hb5 := (put8_both (x := ⟨xk, ⟨xo, xd, xa, xb, xn⟩, xs, xm⟩) HB3.out (by rw [HBS.out]; exact HDB.out : w2.heap.size ≤ DB) (q := k * 8)).drew
    generalize (put8 w3 DB (k * 8) ⟨xk, ⟨xo, xd, xa, xb, xn⟩, xs, xm⟩).drew = W5 at hbad hb5 ⊢
    have hset : (L.set k ⟨xk, ⟨xo, xd, xa, xb, xn⟩, xs, xm⟩).length = L.length := List.length_set
    have hswf : ∀ y ∈ L.set k ⟨xk, ⟨xo, xd, xa, xb, xn⟩, xs, xm⟩, Itm.wf y := fun y hy => by
      rcases List.mem_or_eq_of_mem_set hy with h | h
      · exact HOK.out.wf y h
      · rw [h]; exact HX.out
    have HSBAD : Hid (Sl W5 (some ⟨DB, 0, none⟩) (L.set k ⟨xk, ⟨xo, xd, xa, xb, xn⟩, xs, xm⟩)) := ⟨fun _ => ⟨DB, 0, rfl, hbad⟩, by rw [hset]; omega, hswf⟩
    have HSG : Hid (Sl W5 (some ⟨B, 0, none⟩) L) := ⟨fun _ => ⟨B, 0, rfl, HIT.out.both hb5⟩, by omega, HOK.out.wf⟩
    have HB5 := Lib.hid (HB2.out.trans hb5)
    have HX5 := Lib.hid ((hb5.1.block _ (lt_of_heap HXC.out)).trans HXC.out)
    generalize L.set k ⟨xk, ⟨xo, xd, xa, xb, xn⟩, xs, xm⟩ = M at HSBAD hset
    have HSET := Lib.hid hset
    clear hbad hb5 hset hswf x0 x1 x2 x3 x4 x5 x6 x7 q0 q1 q2 q3 q4 q5 q6 q7 g0 g1 g2 g3 g4 g5 g6 g7 HROW HB3 HX3 HDB HBS HLL HXC HB2 HIT
    have hcase : (20 < n0 ∧ ∃ b o, p0 = some ⟨b, o, none⟩ ∧ ItemsAt w b o raw0) ∨ ¬ 20 < n0 := by
      by_cases h : 20 < n0
      · exact Or.inl ⟨h, HP0.out (by omega)⟩
      · exact Or.inr h
    rcases hcase with ⟨h20, b0, o0, rfl, hi0⟩ | h20
    · have h20' : (20 : Int) < (n0 : Int) := by omega
      have h20c : 20 ≤ c0 := by omega
      have h20d : (20 : Int) ≤ (c0 : Int) := by omega
      have hs0 : Sl W5 (some ⟨b0, o0, none⟩) (raw0.take 20) := ⟨fun _ => ⟨b0, o0, rfl, by
        have := (hi0.both HB5.out).part 0 20
        rw [Nat.zero_mul, Nat.add_zero, List.drop_zero] at this
        exact this⟩, by rw [List.length_take]; omega, fun y hy => HW0.out y (List.mem_of_mem_take hy)⟩
      have hl0 : (raw0.take 20).length = 20 := by rw [List.length_take, HN0.out]; omega
      have HS0 := Lib.hid hs0
      have HL0 := Lib.hid hl0
      clear hs0 hl0
      go_wp2_with fail
      have hth := th_new (c0 := c0) (c1 := oc) (c2 := dc) 22 HS0.out HSG.out HSBAD.out
      rw [HL0.out, HSET.out] at hth
      have hb6 := HB5.out.alloc #[.slice (some ⟨b0, o0, none⟩) 20 c0, .slice (some ⟨B, 0, none⟩) L.length oc, .slice (some ⟨DB, 0, none⟩) L.length dc] 22
      have hx6 := (heap_alloc_old W5 (.cells #[.slice (some ⟨b0, o0, none⟩) 20 c0, .slice (some ⟨B, 0, none⟩) L.length oc, .slice (some ⟨DB, 0, none⟩) L.length dc] 22) (lt_of_heap HX5.out)).trans HX5.out
      generalize W5.alloc (.cells #[.slice (some ⟨b0, o0, none⟩) 20 c0, .slice (some ⟨B, 0, none⟩) L.length oc, .slice (some ⟨DB, 0, none⟩) L.length dc] 22) = W6 at hth hb6 hx6 ⊢
      generalize W5.heap.size = SB at hth ⊢
      obtain ⟨ff, gg, LL, HTH⟩ : ∃ ff gg LL, Hid (Th W6 SB ff gg LL) := ⟨_, _, _, hth⟩
      have HB6 := Lib.hid hb6
      have HX6 := Lib.hid hx6
      clear hth hb6 hx6 HSBAD HSG HB5 HX5 HSET HS0 HL0
      have y0 := exd0
      have y1 := exd1
      go_loopw [53] (fun i wr => ∃ j : Nat, j ≤ 3 ∧ i = .int .i64 j ∧ Hid (Both W6 wr)) (fun i _ => 3 - (intOf i).toNat)
      case atStart => exact ⟨0, by omega, rfl, Both.refl _⟩
      case round =>
        obtain ⟨j, hj, rfl, HB⟩ := hrel
        by_cases hlt : j < 3
        · have hj' : (j : Int) < 3 := by omega
          have HLT := Lib.hid hlt
          have e1 := (HTH.out.both HB.out).cell j hlt
          have hsl := (HTH.out.both HB.out).sl j hlt
          generalize ff j = vp at e1 hsl
          generalize gg j = vc at e1
          generalize LL j = vl at e1 hsl
          have HSL := Lib.hid hsl
          have hpl : (plV vl).length ≤ 9223372036854775807 := by have := plV_len vl; have := hsl.few; omega
          have hwl : (wdV vl).length ≤ 9223372036854775807 := by have := wdV_len hsl.wf hsl.few; omega
          have HPL := Lib.hid hpl
          have HWLn := Lib.hid hwl
          clear hsl hpl hwl hlt
          go_wp2_with fail
          refine (pl_all vp vc vl wr HSL).mono ?_
          rintro e w7 ⟨q7, d7, rfl, hq7, hb7⟩
          have HQ7 := Lib.hid hq7
          have HS7 := Lib.hid (HSL.out.both hb7)
          have HB7 := Lib.hid (HB.out.trans hb7)
          clear hq7 hb7 e1 HSL
          go_wp2_with fail
          refine (plR_all vp vc vl w7 HS7).mono ?_
          rintro e w8 ⟨q8, d8, rfl, hq8, hb8⟩
          have HQ8 := Lib.hid hq8
          have HQ78 := Lib.hid (HQ7.out.both hb8)
          have HS8 := Lib.hid (HS7.out.both hb8)
          have HB8 := Lib.hid (HB7.out.trans hb8)
          clear hq8 hb8 HQ7 HS7 HB7
          go_wp2_with fail
          refine (asm_all vp vc vl w8 HS8).mono ?_
          rintro e w9 ⟨q9, d9, rfl, hq9, hb9⟩
          have HQ9 := Lib.hid hq9
          have HQ79 := Lib.hid (HQ78.out.both hb9)
          have HQ89 := Lib.hid (HQ8.out.both hb9)
          have HS9 := Lib.hid (HS8.out.both hb9)
          have HB9 := Lib.hid (HB8.out.trans hb9)
          clear hq9 hb9 HQ8 HQ78 HS8 HB8
          go_wp2_with fail
          refine (asmR_all vp vc vl w9 HS9).mono ?_
          rintro e w10 ⟨q10, d10, rfl, hq10, hb10⟩
          have HQA := Lib.hid hq10
          have HQ7A := Lib.hid (HQ79.out.both hb10)
          have HQ8A := Lib.hid (HQ89.out.both hb10)
          have HQ9A := Lib.hid (HQ9.out.both hb10)
          have HSA := Lib.hid (HS9.out.both hb10)
          have HBA := Lib.hid (HB9.out.trans hb10)
          clear hq10 hb10 HQ9 HQ79 HQ89 HS9 HB9
          have zE : (layE vl != layE vl) = false := by simp
          have zF : (findV vl s != findV vl s) = false := by simp
          have zA : (findV vl ⟨#[97]⟩ != findV vl ⟨#[97]⟩) = false := by simp
          go_wp2_with fail
          refine (ints_same q7 q8 d7 d8 (plV vl) w10 HPL.out HQ7A HQ8A).mono ?_
          rintro e w11 ⟨rfl, hb11⟩
          have HQ9B := Lib.hid (HQ9A.out.both hb11)
          have HQAB := Lib.hid (HQA.out.both hb11)
          have HSB2 := Lib.hid (HSA.out.both hb11)
          have HBB := Lib.hid (HBA.out.trans hb11)
          clear hb11 HQ7A HQ8A HQ9A HQA HSA HBA
          go_wp2_with fail
          refine (ints_same q9 q10 d9 d10 (wdV vl) w11 HWLn.out HQ9B HQAB).mono ?_
          rintro e w12 ⟨rfl, hb12⟩
          have HSC := Lib.hid (HSB2.out.both hb12)
          have HBC := Lib.hid (HBB.out.trans hb12)
          clear hb12 HQ9B HQAB HSB2 HBB
          go_wp2_with fail
          refine (find_all vp vc vl s w12 HSC).mono ?_
          rintro e w13 ⟨rfl, hb13⟩
          have HSD := Lib.hid (HSC.out.both hb13)
          have HBD := Lib.hid (HBC.out.trans hb13)
          clear hb13 HSC HBC
          go_wp2_with fail
          refine (findR_all vp vc vl s w13 HSD).mono ?_
          rintro e w14 ⟨rfl, hb14⟩
          have HSE := Lib.hid (HSD.out.both hb14)
          have HBE := Lib.hid (HBD.out.trans hb14)
          clear hb14 HSD HBD
          go_wp2_with fail
          refine (find_all vp vc vl ⟨#[97]⟩ w14 HSE).mono ?_
          rintro e w15 ⟨rfl, hb15⟩
          have HSF := Lib.hid (HSE.out.both hb15)
          have HBF := Lib.hid (HBE.out.trans hb15)
          clear hb15 HSE HBE
          go_wp2_with fail
          refine (findR_all vp vc vl ⟨#[97]⟩ w15 HSF).mono ?_
          rintro e w16 ⟨rfl, hb16⟩
          have HN9 := Lib.hid (HBF.out.trans hb16)
          clear hb16 HSF HBF
          go_wp2_with fail
          go_roundw
          case rel => exact ⟨j + 1, HLT.out, by go_num, HN9.out⟩
          case measure => simp [intOf]; have := HLT.out; omega
        · obtain rfl : j = 3 := by omega
          go_wp2_with fail
          refine (number_new d n wr).mono ?_
          rintro e w20 ⟨P1, e1, rfl, hat1, hb20, _⟩
          have HA1 := Lib.hid hat1
          have HB20 := Lib.hid (HB.out.trans hb20)
          clear hat1 hb20 y0 y1 hlt hj
          go_wp2_with fail
          refine (numberR_any d n HN.out w20).mono ?_
          rintro e w21 ⟨P2, e2, rfl, hat2, hb21, _⟩
          have HA2 := Lib.hid hat2
          have HA1' := Lib.hid (HA1.out.both hb21)
          have HB21 := Lib.hid (HB20.out.trans hb21)
          have hNl := number_len d n
          generalize number d n = NL at HA1' HA2 hNl ⊢
          clear hat2 hb21 HA1 HB20
          have hx21 := (HB21.out.1.block _ (lt_of_heap HX6.out)).trans HX6.out
          have hlx := lt_of_heap hx21
          generalize w.heap.size = XB at hx21 hlx ⊢
          have HXC2 : Hid (∀ W, Both w21 W → W.cell? ⟨XB, 0, none⟩ = some (.int .i64 xk) ∧ W.cell? ⟨XB, 1, none⟩ = some (.int .i64 xo) ∧ W.cell? ⟨XB, 2, none⟩ = some (.int .i64 xd) ∧ W.cell? ⟨XB, 3, none⟩ = some (.int .i64 xa) ∧ W.cell? ⟨XB, 4, none⟩ = some (.int .i64 xb) ∧ W.cell? ⟨XB, 5, none⟩ = some (.int .i64 xn) ∧ W.cell? ⟨XB, 6, none⟩ = some (.string xs) ∧ W.cell? ⟨XB, 7, none⟩ = some (.int .i64 xm)) := fun W h => by
            have hY := (h.1.block XB hlx).trans hx21
            exact ⟨cell_of_heap hY 0, cell_of_heap hY 1, cell_of_heap hY 2, cell_of_heap hY 3, cell_of_heap hY 4, cell_of_heap hY 5, cell_of_heap hY 6, cell_of_heap hY 7⟩
          obtain ⟨x0, x1, x2, x3, x4, x5, x6, x7⟩ := HXC2.out _ (Both.refl _)
          obtain ⟨r, hr⟩ : ∃ r, rightX ⟨xk, ⟨xo, xd, xa, xb, xn⟩, xs, xm⟩ = r := ⟨_, rfl⟩
          have hrr := fun W => rightXR_any xk xo xd xa xb xn xm xs HX.out.name W
          rw [hr] at hrr
          have HR := Lib.hid hr
          have HRR := Lib.hid hrr
          have zr : (r != r) = false := by simp
          have zl : ((NL.length : Int) != (NL.length : Int)) = false := by simp
          clear hr hrr hx21 hlx
          go_upto_region 19 with (fail)
          go_region_held3 (fun w' => w'.cell? ⟨XB, 0, none⟩ = some (.int .i64 xk) ∧ w'.cell? ⟨XB, 1, none⟩ = some (.int .i64 xo) ∧ w'.cell? ⟨XB, 2, none⟩ = some (.int .i64 xd) ∧ w'.cell? ⟨XB, 3, none⟩ = some (.int .i64 xa) ∧ w'.cell? ⟨XB, 4, none⟩ = some (.int .i64 xb) ∧ w'.cell? ⟨XB, 5, none⟩ = some (.int .i64 xn) ∧ w'.cell? ⟨XB, 6, none⟩ = some (.string xs) ∧ w'.cell? ⟨XB, 7, none⟩ = some (.int .i64 xm))
            (first | exact HXC2.out _ (((Both.refl _).drew.trans hb22).trans hb23) | exact HXC2.out _ (((Both.refl _).drew.trans hb23).trans hb22) | exact HXC2.out _ ((Both.refl _).drew.trans hb22) | exact HXC2.out _ ((Both.refl _).drew.trans hb23) | exact HXC2.out _ (Both.refl _).drew)
            (first
              | (go_at_call 23; ((with_reducible refine (rightX_lit HR.out HX.out _).mono ?_); rintro e w22 ⟨rfl, hb22⟩))
              | (go_at_call 24; ((with_reducible refine (HRR.out _).mono ?_); rintro e w23 ⟨rfl, hb23⟩)))
          all_goals
            have HB23 := Lib.hid (((Both.refl w21).drew.trans hb22).trans hb23)
            clear hb22 hb23 HXC2 zr zl
            try clear x0 x1 x2 x3 x4 x5 x6 x7
            go_wp2_with fail
            go_loopw [30] (fun i wr => ∃ j : Nat, j ≤ NL.length ∧ i = .int .i64 j ∧ Hid (Both w21 wr)) (fun i _ => NL.length - (intOf i).toNat)
            case atStart => exact ⟨0, Nat.zero_le _, rfl, HB23.out⟩
            case round =>
              obtain ⟨j, hj, rfl, HC⟩ := hrel
              by_cases hlt : j < NL.length
              · obtain ⟨⟨io, jd, ia, ib, im⟩, hij⟩ : ∃ i, NL[j]? = some i := ⟨_, List.getElem?_eq_getElem hlt⟩
                obtain ⟨b1, f1, rfl, _, hcs1⟩ := (HA1'.out.both HC.out) j _ hij
                obtain ⟨b2, f2, rfl, _, hcs2⟩ := (HA2.out.both HC.out) j _ hij
                have r0 := hcs1 0 _ rfl
                have r1 := hcs1 1 _ rfl
                have r2 := hcs1 2 _ rfl
                have r3 := hcs1 3 _ rfl
                have r4 := hcs1 4 _ rfl
                have t0 := hcs2 0 _ rfl
                have t1 := hcs2 1 _ rfl
                have t2 := hcs2 2 _ rfl
                have t3 := hcs2 3 _ rfl
                have t4 := hcs2 4 _ rfl
                rw [Nat.add_zero] at r0 t0
                have hj' : (j : Int) < (NL.length : Int) := by omega
                have HLT := Lib.hid hlt
                clear hcs1 hcs2 hij hlt
                go_upto_region 24 with (fail)
                go_quiet (fail)
                have HN9 := Lib.hid (HC.out.trans ((Both.refl wr).drewN nq))
                clear r0 r1 r2 r3 r4 t0 t1 t2 t3 t4
                go_wp2_with fail
                go_roundw
                case rel => exact ⟨j + 1, HLT.out, by go_num, HN9.out⟩
                case measure => simp [intOf]; have := HLT.out; omega
              · obtain rfl : j = NL.length := by omega
                go_wp2_with fail
                go_ret
                exact ⟨rfl, HB6.out.trans (HB21.out.trans HC.out)⟩
    · have h20' : ¬ (20 : Int) < (n0 : Int) := by omega
      have h20e : decide ((20 : Int) < (n0 : Int)) = false := decide_eq_false h20'
      have hs0 : Sl W5 p0 raw0 := ⟨fun h => by
        obtain ⟨b, o, e, i⟩ := HP0.out (by have := HN0.out; omega)
        exact ⟨b, o, e, i.both HB5.out⟩, by have := HN0.out; omega, HW0.out⟩
      have hl0 : raw0.length = n0 := HN0.out
      have HS0 := Lib.hid hs0
      have HL0 := Lib.hid hl0
      clear hs0 hl0
      go_wp2_with fail
      have hth := th_new (c0 := c0) (c1 := oc) (c2 := dc) 22 HS0.out HSG.out HSBAD.out
      rw [HL0.out, HSET.out] at hth
      have hb6 := HB5.out.alloc #[.slice p0 n0 c0, .slice (some ⟨B, 0, none⟩) L.length oc, .slice (some ⟨DB, 0, none⟩) L.length dc] 22
      have hx6 := (heap_alloc_old W5 (.cells #[.slice p0 n0 c0, .slice (some ⟨B, 0, none⟩) L.length oc, .slice (some ⟨DB, 0, none⟩) L.length dc] 22) (lt_of_heap HX5.out)).trans HX5.out
      generalize W5.alloc (.cells #[.slice p0 n0 c0, .slice (some ⟨B, 0, none⟩) L.length oc, .slice (some ⟨DB, 0, none⟩) L.length dc] 22) = W6 at hth hb6 hx6 ⊢
      generalize W5.heap.size = SB at hth ⊢
      obtain ⟨ff, gg, LL, HTH⟩ : ∃ ff gg LL, Hid (Th W6 SB ff gg LL) := ⟨_, _, _, hth⟩
      have HB6 := Lib.hid hb6
      have HX6 := Lib.hid hx6
      clear hth hb6 hx6 HSBAD HSG HB5 HX5 HSET HS0 HL0
      have y0 := exd0
      have y1 := exd1
      go_loopw [53] (fun i wr => ∃ j : Nat, j ≤ 3 ∧ i = .int .i64 j ∧ Hid (Both W6 wr)) (fun i _ => 3 - (intOf i).toNat)
      case atStart => exact ⟨0, by omega, rfl, Both.refl _⟩
      case round =>
        obtain ⟨j, hj, rfl, HB⟩ := hrel
        by_cases hlt : j < 3
        · have hj' : (j : Int) < 3 := by omega
          have HLT := Lib.hid hlt
          have e1 := (HTH.out.both HB.out).cell j hlt
          have hsl := (HTH.out.both HB.out).sl j hlt
          generalize ff j = vp at e1 hsl
          generalize gg j = vc at e1
          generalize LL j = vl at e1 hsl
          have HSL := Lib.hid hsl
          have hpl : (plV vl).length ≤ 9223372036854775807 := by have := plV_len vl; have := hsl.few; omega
          have hwl : (wdV vl).length ≤ 9223372036854775807 := by have := wdV_len hsl.wf hsl.few; omega
          have HPL := Lib.hid hpl
          have HWLn := Lib.hid hwl
          clear hsl hpl hwl hlt
          go_wp2_with fail
          refine (pl_all vp vc vl wr HSL).mono ?_
          rintro e w7 ⟨q7, d7, rfl, hq7, hb7⟩
          have HQ7 := Lib.hid hq7
          have HS7 := Lib.hid (HSL.out.both hb7)
          have HB7 := Lib.hid (HB.out.trans hb7)
          clear hq7 hb7 e1 HSL
          go_wp2_with fail
          refine (plR_all vp vc vl w7 HS7).mono ?_
          rintro e w8 ⟨q8, d8, rfl, hq8, hb8⟩
          have HQ8 := Lib.hid hq8
          have HQ78 := Lib.hid (HQ7.out.both hb8)
          have HS8 := Lib.hid (HS7.out.both hb8)
          have HB8 := Lib.hid (HB7.out.trans hb8)
          clear hq8 hb8 HQ7 HS7 HB7
          go_wp2_with fail
          refine (asm_all vp vc vl w8 HS8).mono ?_
          rintro e w9 ⟨q9, d9, rfl, hq9, hb9⟩
          have HQ9 := Lib.hid hq9
          have HQ79 := Lib.hid (HQ78.out.both hb9)
          have HQ89 := Lib.hid (HQ8.out.both hb9)
          have HS9 := Lib.hid (HS8.out.both hb9)
          have HB9 := Lib.hid (HB8.out.trans hb9)
          clear hq9 hb9 HQ8 HQ78 HS8 HB8
          go_wp2_with fail
          refine (asmR_all vp vc vl w9 HS9).mono ?_
          rintro e w10 ⟨q10, d10, rfl, hq10, hb10⟩
          have HQA := Lib.hid hq10
          have HQ7A := Lib.hid (HQ79.out.both hb10)
          have HQ8A := Lib.hid (HQ89.out.both hb10)
          have HQ9A := Lib.hid (HQ9.out.both hb10)
          have HSA := Lib.hid (HS9.out.both hb10)
          have HBA := Lib.hid (HB9.out.trans hb10)
          clear hq10 hb10 HQ9 HQ79 HQ89 HS9 HB9
          have zE : (layE vl != layE vl) = false := by simp
          have zF : (findV vl s != findV vl s) = false := by simp
          have zA : (findV vl ⟨#[97]⟩ != findV vl ⟨#[97]⟩) = false := by simp
          go_wp2_with fail
          refine (ints_same q7 q8 d7 d8 (plV vl) w10 HPL.out HQ7A HQ8A).mono ?_
          rintro e w11 ⟨rfl, hb11⟩
          have HQ9B := Lib.hid (HQ9A.out.both hb11)
          have HQAB := Lib.hid (HQA.out.both hb11)
          have HSB2 := Lib.hid (HSA.out.both hb11)
          have HBB := Lib.hid (HBA.out.trans hb11)
          clear hb11 HQ7A HQ8A HQ9A HQA HSA HBA
          go_wp2_with fail
          refine (ints_same q9 q10 d9 d10 (wdV vl) w11 HWLn.out HQ9B HQAB).mono ?_
          rintro e w12 ⟨rfl, hb12⟩
          have HSC := Lib.hid (HSB2.out.both hb12)
          have HBC := Lib.hid (HBB.out.trans hb12)
          clear hb12 HQ9B HQAB HSB2 HBB
          go_wp2_with fail
          refine (find_all vp vc vl s w12 HSC).mono ?_
          rintro e w13 ⟨rfl, hb13⟩
          have HSD := Lib.hid (HSC.out.both hb13)
          have HBD := Lib.hid (HBC.out.trans hb13)
          clear hb13 HSC HBC
          go_wp2_with fail
          refine (findR_all vp vc vl s w13 HSD).mono ?_
          rintro e w14 ⟨rfl, hb14⟩
          have HSE := Lib.hid (HSD.out.both hb14)
          have HBE := Lib.hid (HBD.out.trans hb14)
          clear hb14 HSD HBD
          go_wp2_with fail
          refine (find_all vp vc vl ⟨#[97]⟩ w14 HSE).mono ?_
          rintro e w15 ⟨rfl, hb15⟩
          have HSF := Lib.hid (HSE.out.both hb15)
          have HBF := Lib.hid (HBE.out.trans hb15)
          clear hb15 HSE HBE
          go_wp2_with fail
          refine (findR_all vp vc vl ⟨#[97]⟩ w15 HSF).mono ?_
          rintro e w16 ⟨rfl, hb16⟩
          have HN9 := Lib.hid (HBF.out.trans hb16)
          clear hb16 HSF HBF
          go_wp2_with fail
          go_roundw
          case rel => exact ⟨j + 1, HLT.out, by go_num, HN9.out⟩
          case measure => simp [intOf]; have := HLT.out; omega
        · obtain rfl : j = 3 := by omega
          go_wp2_with fail
          refine (number_new d n wr).mono ?_
          rintro e w20 ⟨P1, e1, rfl, hat1, hb20, _⟩
          have HA1 := Lib.hid hat1
          have HB20 := Lib.hid (HB.out.trans hb20)
          clear hat1 hb20 y0 y1 hlt hj
          go_wp2_with fail
          refine (numberR_any d n HN.out w20).mono ?_
          rintro e w21 ⟨P2, e2, rfl, hat2, hb21, _⟩
          have HA2 := Lib.hid hat2
          have HA1' := Lib.hid (HA1.out.both hb21)
          have HB21 := Lib.hid (HB20.out.trans hb21)
          have hNl := number_len d n
          generalize number d n = NL at HA1' HA2 hNl ⊢
          clear hat2 hb21 HA1 HB20
          have hx21 := (HB21.out.1.block _ (lt_of_heap HX6.out)).trans HX6.out
          have hlx := lt_of_heap hx21
          generalize w.heap.size = XB at hx21 hlx ⊢
          have HXC2 : Hid (∀ W, Both w21 W → W.cell? ⟨XB, 0, none⟩ = some (.int .i64 xk) ∧ W.cell? ⟨XB, 1, none⟩ = some (.int .i64 xo) ∧ W.cell? ⟨XB, 2, none⟩ = some (.int .i64 xd) ∧ W.cell? ⟨XB, 3, none⟩ = some (.int .i64 xa) ∧ W.cell? ⟨XB, 4, none⟩ = some (.int .i64 xb) ∧ W.cell? ⟨XB, 5, none⟩ = some (.int .i64 xn) ∧ W.cell? ⟨XB, 6, none⟩ = some (.string xs) ∧ W.cell? ⟨XB, 7, none⟩ = some (.int .i64 xm)) := fun W h => by
            have hY := (h.1.block XB hlx).trans hx21
            exact ⟨cell_of_heap hY 0, cell_of_heap hY 1, cell_of_heap hY 2, cell_of_heap hY 3, cell_of_heap hY 4, cell_of_heap hY 5, cell_of_heap hY 6, cell_of_heap hY 7⟩
          obtain ⟨x0, x1, x2, x3, x4, x5, x6, x7⟩ := HXC2.out _ (Both.refl _)
          obtain ⟨r, hr⟩ : ∃ r, rightX ⟨xk, ⟨xo, xd, xa, xb, xn⟩, xs, xm⟩ = r := ⟨_, rfl⟩
          have hrr := fun W => rightXR_any xk xo xd xa xb xn xm xs HX.out.name W
          rw [hr] at hrr
          have HR := Lib.hid hr
          have HRR := Lib.hid hrr
          have zr : (r != r) = false := by simp
          have zl : ((NL.length : Int) != (NL.length : Int)) = false := by simp
          clear hr hrr hx21 hlx
          go_upto_region 19 with (fail)
          go_region_held3 (fun w' => w'.cell? ⟨XB, 0, none⟩ = some (.int .i64 xk) ∧ w'.cell? ⟨XB, 1, none⟩ = some (.int .i64 xo) ∧ w'.cell? ⟨XB, 2, none⟩ = some (.int .i64 xd) ∧ w'.cell? ⟨XB, 3, none⟩ = some (.int .i64 xa) ∧ w'.cell? ⟨XB, 4, none⟩ = some (.int .i64 xb) ∧ w'.cell? ⟨XB, 5, none⟩ = some (.int .i64 xn) ∧ w'.cell? ⟨XB, 6, none⟩ = some (.string xs) ∧ w'.cell? ⟨XB, 7, none⟩ = some (.int .i64 xm))
            (first | exact HXC2.out _ (((Both.refl _).drew.trans hb22).trans hb23) | exact HXC2.out _ (((Both.refl _).drew.trans hb23).trans hb22) | exact HXC2.out _ ((Both.refl _).drew.trans hb22) | exact HXC2.out _ ((Both.refl _).drew.trans hb23) | exact HXC2.out _ (Both.refl _).drew)
            (first
              | (go_at_call 23; ((with_reducible refine (rightX_lit HR.out HX.out _).mono ?_); rintro e w22 ⟨rfl, hb22⟩))
              | (go_at_call 24; ((with_reducible refine (HRR.out _).mono ?_); rintro e w23 ⟨rfl, hb23⟩)))
          all_goals
            have HB23 := Lib.hid (((Both.refl w21).drew.trans hb22).trans hb23)
            clear hb22 hb23 HXC2 zr zl
            try clear x0 x1 x2 x3 x4 x5 x6 x7
            go_wp2_with fail
            go_loopw [30] (fun i wr => ∃ j : Nat, j ≤ NL.length ∧ i = .int .i64 j ∧ Hid (Both w21 wr)) (fun i _ => NL.length - (intOf i).toNat)
            case atStart => exact ⟨0, Nat.zero_le _, rfl, HB23.out⟩
            case round =>
              obtain ⟨j, hj, rfl, HC⟩ := hrel
              by_cases hlt : j < NL.length
              · obtain ⟨⟨io, jd, ia, ib, im⟩, hij⟩ : ∃ i, NL[j]? = some i := ⟨_, List.getElem?_eq_getElem hlt⟩
                obtain ⟨b1, f1, rfl, _, hcs1⟩ := (HA1'.out.both HC.out) j _ hij
                obtain ⟨b2, f2, rfl, _, hcs2⟩ := (HA2.out.both HC.out) j _ hij
                have r0 := hcs1 0 _ rfl
                have r1 := hcs1 1 _ rfl
                have r2 := hcs1 2 _ rfl
                have r3 := hcs1 3 _ rfl
                have r4 := hcs1 4 _ rfl
                have t0 := hcs2 0 _ rfl
                have t1 := hcs2 1 _ rfl
                have t2 := hcs2 2 _ rfl
                have t3 := hcs2 3 _ rfl
                have t4 := hcs2 4 _ rfl
                rw [Nat.add_zero] at r0 t0
                have hj' : (j : Int) < (NL.length : Int) := by omega
                have HLT := Lib.hid hlt
                clear hcs1 hcs2 hij hlt
                go_upto_region 24 with (fail)
                go_quiet (fail)
                have HN9 := Lib.hid (HC.out.trans ((Both.refl wr).drewN nq))
                clear r0 r1 r2 r3 r4 t0 t1 t2 t3 t4
                go_wp2_with fail
                go_roundw
                case rel => exact ⟨j + 1, HLT.out, by go_num, HN9.out⟩
                case measure => simp [intOf]; have := HLT.out; omega
              · obtain rfl : j = NL.length := by omega
                go_wp2_with fail
                go_ret
                exact ⟨rfl, HB6.out.trans (HB21.out.trans HC.out)⟩)
end Go.Proofs.Ytjjbfeoidceiiaa
