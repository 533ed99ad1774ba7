/- The law's blocks of statements out of raw numbers. -/
import Derived.Test.YthlnjnmomnpnpaaGreatDoorYRs
import Derived.Deep.LoopGhost
namespace Go.Proofs.YthlnjnmomnpnpaaGreatDoor
open Go.RowKit Tk Sy
set_option linter.unusedVariables false
set_option linter.unusedSimpArgs false
theorem own_next {P : Program} (w : World) (base : Nat) (t ty e : TypeId) (i : TypeInfo) (z : Value) (size bytes : Nat) (ht : P.underlying t = some (.slice e)) (hi : P.info? e = some i) (hz : i.zero = some z)
    (hsize : i.size = size) (hby : i.bytes = bytes) (v : Value) (n : Nat) (xs : List Value) (hown : w.ownsRow base e size v n xs)
    (a : Addr) (m c : Nat) (news : List Value) (hl : news.length = m * size) (hnews : ∀ j u, news[j]? = some u → w.cell? (a.add j) = some u) (h1 : ∀ u ∈ news, u.oneCell' = true)
    (h63 : n + m ≤ maxLen) (hbytes : (n + m) * bytes ≤ 140737488355328) (hm : 0 < m) {v' : Value} {w' : World} (hrun : (Builtin.append_ #[t, t] ty #[v, .slice (some a) m c]).run P w = .ok v' w') : ∀ b, v'.ownBlock = some b → v.ownBlock = some b ∨ w.heap.size ≤ b := by
  subst hsize
  subst hby
  have hsmall : n + m ≤ 9223372036854775807 := by simp only [maxLen] at h63; omega
  rcases hown.2 with ⟨rfl, rfl⟩ | ⟨g, cap, cur, rfl, hbg, hg, hnc, hcm, hcs, htake⟩
  · rw [run_append_nil (P := P) w t ty e i z ht hi hz a m c news hl hnews hm (by omega) (by have hb := hbytes; simp only [Nat.zero_add] at hb; omega)] at hrun
    injection hrun with hv _
    subst hv
    intro b hb
    right
    simp [Value.ownBlock] at hb
    omega
  · by_cases hroom : n + m ≤ cap
    · have hfit : n * i.size + news.length ≤ cur.size := by rw [hl, hcs, ← Nat.add_mul]; exact Nat.mul_le_mul_right _ hroom
      rw [run_append_room (P := P) w t ty e i ht hi g n cap cur hg a m c news hl hnews h1 hroom hfit] at hrun
      injection hrun with hv _
      subst hv
      intro b hb
      left
      simpa [Value.ownBlock] using hb
    · have holds : ∀ j u, xs[j]? = some u → w.cell? ((⟨g, 0, none⟩ : Addr).add j) = some u := hown.cells (g := g) rfl
      rw [run_append_grow (P := P) w t ty e i z ht hi hz ⟨g, 0, none⟩ n cap xs hown.1 holds a m c news hl hnews (by omega) (by omega) (growslice_fits (by omega) hbytes)] at hrun
      injection hrun with hv _
      subst hv
      intro b hb
      right
      simp [Value.ownBlock] at hb
      omega
/-- one thing more, and where it lies -/
theorem one_more2 {α : Type} {enc : α → List Value} {k : Nat} {t T : TypeId} {bytes : Nat} (H : RowTy enc k t T bytes) {w : World} {base : Nat} {v : Value} {l : List α} (h : ERow enc T k w base v l) (x : α) {B c : Nat} {cs : Array Value} {tt : TypeId} {fr : Nat × Nat} (hB : w.heap[B]? = some (.cells cs tt fr)) (hcs : cs = (enc x).toArray) (hL : l.length ≤ 100000) (hb : base ≤ w.heap.size) :
    ∃ v' w', (Builtin.append_ #[t, t] t #[v, .slice (some ⟨B, 0, none⟩) 1 c]).run Tryz.prog w = .ok v' w' ∧ ERow enc T k w' base v' (l ++ [x]) ∧ Sv (fun b => v.ownBlock = some b) w w' ∧ ∀ b, v'.ownBlock = some b → v.ownBlock = some b ∨ w.heap.size ≤ b := by
  obtain ⟨v', w', hrun, hown, hsv⟩ := one_more H h x (c := c) hB hcs hL hb
  obtain ⟨i, z, hi, hz, hsz, hby, hzs⟩ := H.info
  have hlt : (l.length + 1) * bytes ≤ 100001 * 1000 := Nat.mul_le_mul (by omega) H.small
  exact ⟨v', w', hrun, hown, hsv, own_next w base t t T i z k bytes H.und hi hz hsz hby v l.length (l.flatMap enc) h ⟨B, 0, none⟩ 1 c (enc x) (by rw [H.len, Nat.one_mul]) (fun j u hu => by
    rw [addr_add, Nat.zero_add, cell_of_heap hB, hcs, List.getElem?_toArray]
    exact hu) (H.one x) (by unfold maxLen; omega) (by omega) (by omega) hrun⟩
theorem SAt.mk {w : World} {p : Option Addr} {l : List St} (h : ∀ (j : Nat) (s : St), l[j]? = some s → WfS s ∧ ∃ b o q c q1 c1 q2 c2, p = some ⟨b, o, none⟩ ∧ b < w.heap.size ∧ (w.cell? ⟨b, o + j * 7, none⟩ = some (.int .i64 s.kind) ∧ w.cell? ⟨b, o + j * 7 + 1, none⟩ = some (.string s.name) ∧ w.cell? ⟨b, o + j * 7 + 2, none⟩ = some (.string s.src) ∧ w.cell? ⟨b, o + j * 7 + 3, none⟩ = some (.int .i64 s.n) ∧ w.cell? ⟨b, o + j * 7 + 4, none⟩ = some (.slice q s.args.length c) ∧ w.cell? ⟨b, o + j * 7 + 5, none⟩ = some (.slice q1 s.thn.length c1) ∧ w.cell? ⟨b, o + j * 7 + 6, none⟩ = some (.slice q2 s.els.length c2)) ∧ EAt w q s.args ∧ SAt w q1 s.thn ∧ SAt w q2 s.els) : SAt w p l := by
  have succ : ∀ (k : Nat) (p : Option Addr) (l : List St), StsAt k w p l → StsAt (k + 1) w p l := by
    intro k
    induction k with
    | zero =>
      intro p l h j e hj
      have : l = [] := h
      subst this
      cases hj
    | succ k ih =>
      intro p l h j e hj
      obtain ⟨hw, b, o, q, c, q1, c1, q2, c2, hp, hl, hc, ha, ht, he⟩ := h j e hj
      exact ⟨hw, b, o, q, c, q1, c1, q2, c2, hp, hl, hc, ha, ih _ _ ht, ih _ _ he⟩
  have mono : ∀ {k k' : Nat} (_ : k ≤ k') {p : Option Addr} {l : List St}, StsAt k w p l → StsAt k' w p l := by
    intro k k' hk
    induction hk with
    | refl => exact fun h => h
    | step _ ih => exact fun h => succ _ _ _ (ih h)
  have step : ∀ n : Nat, ∃ K, ∀ (j : Nat) (s : St), j < n → l[j]? = some s → WfS s ∧ ∃ b o q c q1 c1 q2 c2, p = some ⟨b, o, none⟩ ∧ b < w.heap.size ∧ (w.cell? ⟨b, o + j * 7, none⟩ = some (.int .i64 s.kind) ∧ w.cell? ⟨b, o + j * 7 + 1, none⟩ = some (.string s.name) ∧ w.cell? ⟨b, o + j * 7 + 2, none⟩ = some (.string s.src) ∧ w.cell? ⟨b, o + j * 7 + 3, none⟩ = some (.int .i64 s.n) ∧ w.cell? ⟨b, o + j * 7 + 4, none⟩ = some (.slice q s.args.length c) ∧ w.cell? ⟨b, o + j * 7 + 5, none⟩ = some (.slice q1 s.thn.length c1) ∧ w.cell? ⟨b, o + j * 7 + 6, none⟩ = some (.slice q2 s.els.length c2)) ∧ EAt w q s.args ∧ StsAt K w q1 s.thn ∧ StsAt K w q2 s.els := by
    intro n
    induction n with
    | zero => exact ⟨0, fun j e hj => by omega⟩
    | succ n ih =>
      obtain ⟨K, hK⟩ := ih
      cases hx : l[n]? with
      | none =>
        refine ⟨K, fun j e hj he => ?_⟩
        by_cases hjn : j = n
        · subst hjn
          rw [hx] at he
          cases he
        · exact hK j e (by omega) he
      | some x =>
        obtain ⟨hw, b, o, q, c, q1, c1, q2, c2, hp, hl, hc, ha, ⟨k1, ht⟩, ⟨k2, he⟩⟩ := h n x hx
        refine ⟨max K (max k1 k2), fun j e hj hej => ?_⟩
        by_cases hjn : j = n
        · subst hjn
          rw [hx] at hej
          obtain rfl := Option.some.inj hej
          exact ⟨hw, b, o, q, c, q1, c1, q2, c2, hp, hl, hc, ha, mono (by omega) ht, mono (by omega) he⟩
        · obtain ⟨hw, b, o, q, c, q1, c1, q2, c2, hp, hl, hc, ha, ht, he⟩ := hK j e (by omega) hej
          exact ⟨hw, b, o, q, c, q1, c1, q2, c2, hp, hl, hc, ha, mono (by omega) ht, mono (by omega) he⟩
  obtain ⟨K, hK⟩ := step l.length
  exact ⟨K + 1, fun j e hj => hK j e ((List.getElem?_eq_some_iff.1 hj).1) hj⟩
/-- a statement, and where its parts lie -/
structure PS where
  x : St
  q : Option Addr
  c : Nat
  q1 : Option Addr
  c1 : Nat
  q2 : Option Addr
  c2 : Nat
abbrev encS (p : PS) : List Value := [.int .i64 p.x.kind, .string p.x.name, .string p.x.src, .int .i64 p.x.n, .slice p.q p.x.args.length p.c, .slice p.q1 p.x.thn.length p.c1, .slice p.q2 p.x.els.length p.c2]
structure PSok (w : World) (p : PS) : Prop where
  wf : WfS p.x
  args : EAt w p.q p.x.args
  thn : SAt w p.q1 p.x.thn
  els : SAt w p.q2 p.x.els
theorem PSok.sub {w w' : World} {p : PS} (h : PSok w p) (hs : Sub w w') : PSok w' p := ⟨h.wf, h.args.sub hs, h.thn.sub hs, h.els.sub hs⟩
theorem stmtTy : RowTy encS 7 50 52 120 :=
  ⟨fun _ => rfl, fun x u hu => by simp only [encS, List.mem_cons, List.not_mem_nil, or_false] at hu; rcases hu with rfl | rfl | rfl | rfl | rfl | rfl | rfl <;> rfl, Tryz.underlying50, ⟨(Tryz.prog.info? 52).get (by kernel_rfl), ((Tryz.prog.info? 52).get (by kernel_rfl)).zero.get (by kernel_rfl), by kernel_rfl, by kernel_rfl, by kernel_rfl, by kernel_rfl, by kernel_rfl⟩, by decide, by decide⟩
theorem sts_of {w : World} {p : Option Addr} {l : List PS} (h : EncAt encS 7 w p l) (hl : ∀ y ∈ l, PSok w y) : SAt w p (l.map PS.x) := SAt.mk fun j s hj => by
  rw [List.getElem?_map] at hj
  cases hy : l[j]? with
  | none => rw [hy] at hj; cases hj
  | some y =>
    rw [hy] at hj
    have hs : y.x = s := by simpa using hj
    subst hs
    obtain ⟨b, o, hp, hb, hc⟩ := h j y hy
    have hk := hl y (List.mem_of_getElem? hy)
    exact ⟨hk.wf, b, o, y.q, y.c, y.q1, y.c1, y.q2, y.c2, hp, hb, ⟨hc 0 _ rfl, hc 1 _ rfl, hc 2 _ rfl, hc 3 _ rfl, hc 4 _ rfl, hc 5 _ rfl, hc 6 _ rfl⟩, hk.args, hk.thn, hk.els⟩
/-- without what was there, and without the row -/
abbrev keepW (B : Nat) (v : Value) (w : World) : World := maskP (fun k => decide (k < B) || decide (v.ownBlock = some k)) w
/-- a row grows: what lies elsewhere stays -/
theorem keepW_app {B : Nat} {v v' : Value} {w w' : World} (hs : Sv (fun b => v.ownBlock = some b) w w') (hn : ∀ b, v'.ownBlock = some b → v.ownBlock = some b ∨ w.heap.size ≤ b) : Sub (keepW B v w) (keepW B v' w') := by
  have h1 : Bel (keepW B v w) (keepW B v w') := Sv.maskP hs (fun k hk _ => by simp [hk])
  refine ⟨by rw [maskP_size, maskP_size]; exact hs.size, fun a u ha hu => ?_⟩
  have h2 := h1.sub.cell a u ha hu
  obtain ⟨h3, h4⟩ := maskP_yes h2
  rw [maskP_size] at ha
  have h5 : (decide (a.block < B) || decide (v'.ownBlock = some a.block)) = false := by
    simp only [Bool.or_eq_false_iff, decide_eq_false_iff_not] at h3 ⊢
    exact ⟨h3.1, fun c => by
      rcases hn _ c with e | e
      · exact h3.2 e
      · omega⟩
  rw [maskP_cell w' h5]
  exact h4
theorem keepW_sv {B g : Nat} {v : Value} {w w' : World} (hs : Svg g w w') (hg : g < B) : Sub (keepW B v w) (keepW B v w') := (Sv.maskP hs (fun k hk _ => by subst hk; simp; exact .inl hg)).sub
theorem keepW_young {B : Nat} {v : Value} (w : World) : Sub (keepW B v w) (young B w) := maskP_sub2 w (fun k hk => by simp only [decide_eq_true_eq] at hk; simp; exact .inl hk)
theorem young_keepW {B B' : Nat} {v : Value} (w : World) (hB : B ≤ B') (hv : ∀ b, v.ownBlock = some b → b < B') : Sub (young B' w) (keepW B v w) := maskP_sub2 w (fun k hk => by
  simp only [Bool.or_eq_true, decide_eq_true_eq] at hk ⊢
  rcases hk with h | h
  · omega
  · exact hv k h)
theorem own_lt {α : Type} {enc : α → List Value} {T : TypeId} {k : Nat} {w : World} {base : Nat} {v : Value} {l : List α} (h : ERow enc T k w base v l) : ∀ b, v.ownBlock = some b → b < w.heap.size := fun b hb => by
  rcases h.2 with ⟨rfl, _⟩ | ⟨g, cap, cur, rfl, _, hg, _⟩
  · simp [Value.ownBlock] at hb
  · have : g = b := by simpa [Value.ownBlock] using hb
    subst this
    exact lt_of_heap hg
theorem Svg.later {g : Nat} {S : Nat → Prop} {w0 w w' : World} (h0 : Svg g w0 w) (h : Sv S w w') (hS : ∀ k, S k → w0.heap.size ≤ k) : Svg g w0 w' := ⟨h.os.trans h0.os, h.tape.trans h0.tape, h.output.trans h0.output, Nat.le_trans h0.size h.size, fun j hj hn => (h.block j (Nat.lt_of_lt_of_le hj h0.size) (fun c => by have := hS j c; omega)).trans (h0.block j hj hn)⟩
theorem stmtsV_len (f : List Int → St × List Int) : ∀ (n : Nat) (s : List Int), (stmtsV f n s).1.length = n := by
  intro n
  induction n with
  | zero => intro s; rfl
  | succ n ih => intro s; show (_ :: _).length = _; rw [List.length_cons, ih]
set_option maxRecDepth 100000 in
set_option maxHeartbeats 8000000 in
theorem BAtI.of {D : Int} {d : Nat} (hT : TAtI D d) : BAtI D d := by
  intro c hgc hh g s t lr w p1 p2 p3 c1 c2 c3 hb hC hS
  obtain ⟨n, hn, hn4⟩ := nx_cases (s := s) (n := 4) (by omega)
  obtain ⟨s1, hs1⟩ : ∃ s1, nx s 4 = ((n : Int), s1) := ⟨_, Prod.ext hn rfl⟩
  have hbody : stmtsV (Sy.stV d c) n s1 = (lr, t) := by
    rw [← hb]
    show _ = stmtsV (Sy.stV d c) (nx s 4).1.toNat (nx s 4).2
    rw [hs1]
    rfl
  have HC0 := Lib.hid hC
  have HS0 := Lib.hid hS
  have HN := Lib.hid hs1
  have HBD := Lib.hid hbody
  have HT := Lib.hid hT
  have HGC := Lib.hid hgc
  have HH := Lib.hid hh
  have HN4 := Lib.hid hn4
  clear hC hS hs1 hbody hT hgc hh hn hb hn4
  go_enter Tryz.func24, Tryz.ntmps24
  go_upto_region 1 with (fail)
  have hb1 := (Bel.refl w).alloc (scA p1 c1 p2 c2 p3 c3 c) 61
  have hx1 := heap_alloc_new w (.cells (scA p1 c1 p2 c2 p3 c3 c) 61)
  have hg1 : w.heap.size ≠ g := by have := HS0.out.lt; omega
  generalize w.alloc (.cells (scA p1 c1 p2 c2 p3 c3 c) 61) = W1 at hb1 hx1 ⊢
  generalize hgg : w.heap.size = g1 at hx1 hg1 ⊢
  have HB := Lib.hid hb1
  have HX1 := Lib.hid hx1
  have HG1 := Lib.hid hg1
  have HGG := Lib.hid hgg
  have HS := Lib.hid (HS0.out.bel hb1)
  have HC := Lib.hid (HC0.out.svg (hb1.svg g) HS0.out.lt)
  have HGL : Hid (g < W1.heap.size) := Lib.hid (Nat.lt_of_lt_of_le HS0.out.lt hb1.size)
  have HGW : Hid (g < w.heap.size) := Lib.hid HS0.out.lt
  clear hb1 hx1 hg1 hgg
  have HV := Lib.hid (Svg.refl g W1)
  go_wp2_with fail
  refine (next_lit HN.out (by decide) _ HS.out).mono ?_
  rintro e w2 ⟨rfl, hv, hs⟩
  have HS := Lib.hid hs
  have HV := Lib.hid (HV.out.trans hv)
  clear hv hs
  go_wp2_with fail
  go_loopg [7, 8] n (fun gk oo ii wr => ∃ (l : List PS) (v : Value) (r : List Int), oo = v ∧ ii = .int .i64 (gk : Int) ∧ Hid (ERow encS 52 7 wr W1.heap.size v l) ∧ Hid (∀ p ∈ l, PSok (keepW w.heap.size v wr) p) ∧ Hid (SrcAt g wr r) ∧ Hid (stmtsV (Sy.stV d c) n s1 = (l.map PS.x ++ (stmtsV (Sy.stV d c) gk r).1, (stmtsV (Sy.stV d c) gk r).2)) ∧ Hid (Svg g W1 wr) ∧ Hid (l.length + gk = n))
  case atStart => exact ⟨[], .slice none 0 0, s1, rfl, rfl, Lib.hid (ERow.nil _ _ _ _ _), Lib.hid (fun p hp => by cases hp), HS, Lib.hid rfl, HV, Lib.hid (by simp)⟩
  case round =>
    obtain ⟨l, v, r, hv0, rfl, HR, HP, HSR, HE, HVR, HLN⟩ := hrel
    have hv0' := hv0.symm
    clear hv0
    subst hv0'
    cases gk with
    | zero =>
      go_wp2_with fail
      go_ret
      have h1 := HE.out
      rw [HBD.out] at h1
      have h2 : lr = l.map PS.x := by
        have := congrArg Prod.fst h1
        simpa [stmtsV] using this
      have h3 : t = r := congrArg Prod.snd h1
      subst h3
      obtain ⟨p, cc, hv, he, hp⟩ := HR.out.form stmtTy.len
      subst hv
      refine ⟨p, cc, ?_, ?_, ?_, Svg.of HB.out HVR.out, HSR.out⟩
      · show Ending.returned (Value.slice p l.length cc) = _
        rw [h2, List.length_map]
      · rw [h2, List.length_map]; have := HLN.out; have := HN4.out; omega
      · rw [h2]
        refine sts_of (fun j y hj => ?_) (fun y hy => (HP.out y hy).sub (keepW_young wr))
        obtain ⟨b, o, hpp, hbl, hcc⟩ := he j y hj
        have hge := Nat.le_trans HB.out.size (hp _ hpp).1
        refine ⟨b, o, hpp, by rw [maskP_size]; exact hbl, fun i u hu => ?_⟩
        rw [maskP_cell wr (by simp; exact hge)]
        exact hcc i u hu
    | succ m =>
      obtain ⟨x, r', hx⟩ : ∃ x r', Sy.stV d c r = (x, r') := ⟨_, _, rfl⟩
      have HXX := Lib.hid hx
      clear hx
      have hm0 : (0 < (m : Int) + 1) = True := eq_true (by omega)
      have hm1 : IntKind.i64.wrap (m : Int) = (m : Int) := by
        have := HLN.out
        have := HN4.out
        exact IntWalk.i64_in _ (by constructor <;> omega)
      obtain ⟨d0, d1, d2, d3, d4⟩ := SBox.of (HVR.out.stays HX1.out HG1.out)
      go_wp2_with fail
      refine (HT.out c HGC.out HH.out g r r' x wr p1 p2 p3 c1 c2 c3 HXX.out (HC.out.svg HVR.out HGL.out) HSR.out).mono ?_
      rintro e w3 ⟨q, cq, q1, n1, q2, n2, rfl, wf, he, ht, hl, hv, hs⟩
      have hal := (Bel.refl w3).alloc #[.int .i64 x.kind, .string x.name, .string x.src, .int .i64 x.n, .slice q x.args.length cq, .slice q1 x.thn.length n1, .slice q2 x.els.length n2] 52
      have hnew := heap_alloc_new w3 (.cells #[.int .i64 x.kind, .string x.name, .string x.src, .int .i64 x.n, .slice q x.args.length cq, .slice q1 x.thn.length n1, .slice q2 x.els.length n2] 52)
      have hw0 : w.heap.size ≤ wr.heap.size := Nat.le_trans HB.out.size HVR.out.size
      have hw3 : wr.heap.size ≤ w3.heap.size := hv.size
      have hown : ∀ b, v.ownBlock = some b → W1.heap.size ≤ b := own_ge HR.out
      have hw1 : w.heap.size ≤ W1.heap.size := HB.out.size
      have hgw := HGW.out
      have hR3 := HR.out.sv hv (fun b hb e => by have := hown b hb; omega)
      obtain ⟨v', w5, hrun, ho5, hs5, hn5⟩ := one_more2 stmtTy (hR3.bel hal) (⟨x, q, cq, q1, n1, q2, n2⟩ : PS) (c := 1) hnew rfl (by have := HLN.out; have := HN4.out; omega) (Nat.le_trans HVR.out.size (Nat.le_trans hw3 hal.size))
      have hlt := own_lt HR.out
      have hsub1 : Sub (keepW w.heap.size v wr) (keepW w.heap.size v' w5) := (keepW_sv (hv.trans (hal.svg g)) hgw).trans (keepW_app hs5 hn5)
      have hsub2 : Sub (young wr.heap.size w3) (keepW w.heap.size v' w5) := ((Bel.sub (Svg.young (hal.svg g) (by omega : g < wr.heap.size))).trans (young_keepW _ hw0 hlt)).trans (keepW_app hs5 hn5)
      have HP5 : Hid (∀ p ∈ l ++ [(⟨x, q, cq, q1, n1, q2, n2⟩ : PS)], PSok (keepW w.heap.size v' w5) p) := Lib.hid (fun p hp => by
        rcases List.mem_append.1 hp with hp | hp
        · exact (HP.out p hp).sub hsub1
        · rw [List.mem_singleton.1 hp]
          exact ⟨wf, he.sub hsub2, ht.sub hsub2, hl.sub hsub2⟩)
      have HO5 := Lib.hid ho5
      have HS5 := Lib.hid ((hs.bel hal).sv hs5 (fun b hb => by have := hown b hb; omega))
      have HV5 := Lib.hid (Svg.later ((HVR.out.trans hv).trans (hal.svg g)) hs5 hown)
      have HRUN := Lib.hid hrun
      clear d0 d1 d2 d3 d4 wf he ht hl hv hs hal hnew hw0 hw3 hown hR3 ho5 hs5 hn5 hlt hsub1 hsub2 hrun hgw hw1
      go_wp2_with (at_builtin; refine wpList_app rfl (.tmp 15) (.tmp 20) 50 rfl _ _ _ (by rfl) (by rfl) HRUN.out ?_)
      go_roundg m
      case measure => omega
      case rel => exact ⟨l ++ [⟨x, q, cq, q1, n1, q2, n2⟩], v', r', rfl, rfl, HO5, HP5, HS5, Lib.hid (by
        rw [HE.out]
        show (_, _) = (_, _)
        have e : stmtsV (Sy.stV d c) (m + 1) r = (x :: (stmtsV (Sy.stV d c) m r').1, (stmtsV (Sy.stV d c) m r').2) := by
          show ((Sy.stV d c r).1 :: (stmtsV (Sy.stV d c) m (Sy.stV d c r).2).1, (stmtsV (Sy.stV d c) m (Sy.stV d c r).2).2) = _
          rw [HXX.out]
        rw [e, List.map_append, List.append_assoc]
        rfl), HV5, Lib.hid (by have := HLN.out; rw [List.length_append, List.length_singleton]; omega)⟩
end Go.Proofs.YthlnjnmomnpnpaaGreatDoor
