/- Names of the law's items. -/
import Derived.Test.YtjjbfeoidceiiaaLNumbers
import Derived.StillTailTactics
namespace Go.Proofs.Ytjjbfeoidceiiaa
open Go.RowKit Rv Lb
set_option linter.unusedVariables false
def names8 : List ByteArray := [⟨#[97]⟩, ⟨#[98]⟩, ⟨#[46, 101, 110, 100]⟩, ⟨#[102, 58, 49]⟩, ⟨#[109, 97, 105, 110]⟩, ⟨#[126]⟩, ⟨#[76, 48]⟩, ⟨#[76, 49]⟩]
def endName : ByteArray := ⟨#[101, 110, 100]⟩
theorem names8_lab : ∀ s ∈ endName :: names8, isLab s = true := by decide +kernel
theorem names8_size : ∀ s ∈ endName :: names8, s.size ≤ 4 := by decide +kernel
def SomeName (w : World) (e : Ending) (w' : World) : Prop := ∃ s, s ∈ names8 ∧ e = .returned (.string s) ∧ Both w w'
set_option maxHeartbeats 4000000 in
theorem name3_any (n : Int) (hn : inInt n) (w : World) : Calls Try.prog 31 #[.int .i64 n] w (SomeName w) := by
  obtain ⟨p1, p2⟩ := pick_bd n 8 (by omega)
  obtain ⟨p, hp⟩ : ∃ p, pick n 8 = p := ⟨_, rfl⟩
  rw [hp] at p1 p2
  have HP := Lib.hid hp
  have HN := Lib.hid hn
  clear hp hn
  have h8 : p = 0 ∨ p = 1 ∨ p = 2 ∨ p = 3 ∨ p = 4 ∨ p = 5 ∨ p = 6 ∨ p = 7 := by omega
  clear p1 p2
  rcases h8 with rfl | rfl | rfl | rfl | rfl | rfl | rfl | rfl
  all_goals
    go_enter Try.func31, Try.ntmps31
    go_wp2_with (go_at_call 13; ((with_reducible refine (pick3 HN.out (by omega) HP.out _).mono ?_); rintro e w' ⟨rfl, rfl⟩))
    go_ret
    exact ⟨_, by simp [names8], rfl, (Both.refl _).alloc _ _⟩
end Go.Proofs.Ytjjbfeoidceiiaa
/- Of raw items such that may be: what the law's Fit keeps, in plain words. -/
namespace Go.Proofs.Ytjjbfeoidceiiaa
open Go.RowKit Rv Lb
set_option linter.unusedVariables false
theorem find_some {l : List Itm} {p : Itm → Bool} : (l.findIdx? p).isSome = true ↔ ∃ (j : Nat) (x : Itm), l[j]? = some x ∧ p x = true := by
  rw [List.findIdx?_isSome, List.any_eq_true]
  constructor
  · rintro ⟨x, hx, hp⟩
    obtain ⟨j, hj⟩ := List.mem_iff_getElem?.1 hx
    exact ⟨j, x, hj, hp⟩
  · rintro ⟨j, x, hj, hp⟩
    exact ⟨x, List.mem_of_getElem? hj, hp⟩
theorem isNamed_iff {s : ByteArray} {x : Itm} : isNamed s x = true ↔ x.kind = 2 ∧ x.name = s := by
  unfold isNamed
  simp
theorem named_some {l : List Itm} {s : ByteArray} : (named l s).isSome = true ↔ ∃ (j : Nat) (x : Itm), l[j]? = some x ∧ x.kind = 2 ∧ x.name = s := by
  unfold named
  rw [find_some]
  simp only [isNamed_iff]
theorem namedTo_some {l : List Itm} {k : Nat} {s : ByteArray} : (namedTo l k s).isSome = true ↔ ∃ (j : Nat) (x : Itm), j < k ∧ l[j]? = some x ∧ x.kind = 2 ∧ x.name = s := by
  unfold namedTo
  rw [find_some]
  simp only [isNamed_iff, List.getElem?_take]
  constructor
  · rintro ⟨j, x, hx, h⟩
    split at hx
    · exact ⟨j, x, by assumption, hx, h⟩
    · cases hx
  · rintro ⟨j, x, hj, hx, h⟩
    exact ⟨j, x, by rw [if_pos hj]; exact hx, h⟩
/-- a label stands nowhere twice -/
def once (l : List Itm) : Prop := ∀ (i j : Nat) (x y : Itm), i < j → l[i]? = some x → l[j]? = some y → x.kind = 2 → y.kind = 2 → x.name ≠ y.name
theorem dup_of_once {l : List Itm} (h : once l) (k : Nat) : dupAt l k = false := by
  cases hd : dupAt l k with
  | false => rfl
  | true =>
    unfold dupAt at hd
    cases hy : l[k]? with
    | none => rw [hy] at hd; cases hd
    | some y =>
      rw [hy] at hd
      simp only [Bool.and_eq_true, decide_eq_true_eq] at hd
      obtain ⟨j, x, hj, hx, h2, hn⟩ := namedTo_some.1 hd.2
      exact absurd hn (h j k x y hj hx hy h2 hd.1)
theorem okT_of {l : List Itm} (h : once l) (hl : ∀ x ∈ l, x.kind = 3 → ∃ y ∈ l, y.kind = 2 ∧ y.name = x.name) : okT l = true := by
  refine okT_yes (fun j _ => dup_of_once h j) (fun j hj => ?_)
  unfold lostAt
  rw [List.getElem?_eq_getElem hj]
  simp only
  by_cases h3 : (l[j]).kind = 3
  · obtain ⟨y, hy, h2, hn⟩ := hl l[j] (List.getElem_mem _) h3
    obtain ⟨i, hi⟩ := List.mem_iff_getElem?.1 hy
    have := named_some.2 ⟨i, y, hi, h2, hn⟩
    cases hq : named l (l[j]).name with
    | none => rw [hq] at this; cases this
    | some q => simp
  · rw [decide_eq_false h3, Bool.false_and]
structure FitInv (O : List Itm) (Nm : List ByteArray) : Prop where
  right : ∀ x ∈ O, rightX x = true ∧ Itm.wf x ∧ size1 x ≤ 1139
  sub : ∀ s ∈ Nm, s ∈ endName :: names8
  has : ∀ s ∈ Nm, ∃ x ∈ O, x.kind = 2 ∧ x.name = s
  lab : ∀ x ∈ O, x.kind = 2 → x.name ∈ Nm
  once' : once O
theorem FitInv.nil : FitInv [] [] := ⟨fun x h => (by cases h), fun x h => (by cases h), fun x h => (by cases h), fun x h => (by cases h), fun i j x y _ h => (by simp at h)⟩
theorem once_snoc {O : List Itm} {x : Itm} (h : once O) (hx : x.kind = 2 → ∀ y ∈ O, y.kind = 2 → y.name ≠ x.name) : once (O ++ [x]) := by
  intro i j a b hij ha hb h2 h2'
  have hj : j < (O ++ [x]).length := (List.getElem?_eq_some_iff.1 hb).1
  rw [List.length_append, List.length_singleton] at hj
  rw [List.getElem?_append_left (by omega)] at ha
  by_cases e : j < O.length
  · rw [List.getElem?_append_left e] at hb
    exact h i j a b hij ha hb h2 h2'
  · obtain rfl : j = O.length := by omega
    rw [List.getElem?_append_right (Nat.le_refl _), Nat.sub_self] at hb
    obtain rfl : x = b := Option.some.inj hb
    exact hx h2' a (List.mem_of_getElem? ha) h2
theorem FitInv.other {O : List Itm} {Nm : List ByteArray} {x : Itm} (h : FitInv O Nm) (hr : rightX x = true ∧ Itm.wf x ∧ size1 x ≤ 1139) (hk : x.kind ≠ 2) : FitInv (O ++ [x]) Nm := by
  refine ⟨fun y hy => ?_, h.sub, fun s hs => ?_, fun y hy h2 => ?_, once_snoc h.once' (fun c => absurd c hk)⟩
  · rcases List.mem_append.1 hy with e | e
    · exact h.right y e
    · obtain rfl := List.mem_singleton.1 e
      exact hr
  · obtain ⟨y, hy, h2⟩ := h.has s hs
    exact ⟨y, List.mem_append_left _ hy, h2⟩
  · rcases List.mem_append.1 hy with e | e
    · exact h.lab y e h2
    · obtain rfl := List.mem_singleton.1 e
      exact absurd h2 hk
def labI (s : ByteArray) : Itm := ⟨2, ⟨0, 0, 0, 0, 0⟩, s, 0⟩
theorem zin {n : Int} (h1 : -1000000000 ≤ n) (h2 : n ≤ 1000000000) : inInt n := ⟨by omega, by omega⟩
theorem labI_right {s : ByteArray} (hs : s ∈ endName :: names8) : rightX (labI s) = true ∧ Itm.wf (labI s) ∧ size1 (labI s) ≤ 1139 := by
  refine ⟨?_, ⟨zin (by simp [labI]) (by simp [labI]), ⟨zin (by simp [labI]) (by simp [labI]), zin (by simp [labI]) (by simp [labI]), zin (by simp [labI]) (by simp [labI]), zin (by simp [labI]) (by simp [labI]), zin (by simp [labI]) (by simp [labI])⟩, ?_, zin (by simp [labI]) (by simp [labI])⟩, by simp [size1, labI]⟩
  · unfold rightX labI
    rw [if_neg (by simp), if_pos rfl, names8_lab s hs]
    rfl
  · have := names8_size s hs
    unfold maxLen labI
    simp only
    omega
theorem FitInv.label {O : List Itm} {Nm : List ByteArray} {s : ByteArray} (h : FitInv O Nm) (hs : s ∈ endName :: names8) (hn : s ∉ Nm) : FitInv (O ++ [labI s]) (Nm ++ [s]) := by
  refine ⟨fun y hy => ?_, fun t ht => ?_, fun t ht => ?_, fun y hy h2 => ?_, once_snoc h.once' (fun _ y hy h2 e => hn (by have := h.lab y hy h2; rw [e] at this; exact this))⟩
  · rcases List.mem_append.1 hy with e | e
    · exact h.right y e
    · obtain rfl := List.mem_singleton.1 e
      exact labI_right hs
  · rcases List.mem_append.1 ht with e | e
    · exact h.sub t e
    · obtain rfl := List.mem_singleton.1 e
      exact hs
  · rcases List.mem_append.1 ht with e | e
    · obtain ⟨y, hy, h2⟩ := h.has t e
      exact ⟨y, List.mem_append_left _ hy, h2⟩
    · obtain rfl := List.mem_singleton.1 e
      exact ⟨labI t, by simp, rfl, rfl⟩
  · rcases List.mem_append.1 hy with e | e
    · exact List.mem_append_left _ (h.lab y e h2)
    · obtain rfl := List.mem_singleton.1 e
      simp [labI]
/-- the items whose first k have their labels -/
structure Led (O L : List Itm) (Nm : List ByteArray) (k : Nat) : Prop where
  len : L.length = O.length
  same : ∀ (j : Nat) (x : Itm), O[j]? = some x → (x.kind ≠ 3 ∨ k ≤ j) → L[j]? = some x
  led : ∀ (j : Nat) (x : Itm), O[j]? = some x → x.kind = 3 → j < k → ∃ s ∈ Nm, L[j]? = some ⟨x.kind, x.i, s, x.n⟩
structure FitOk (L : List Itm) : Prop where
  pos : 1 ≤ L.length
  most : L.length ≤ 17
  right : allRight L
  ok : okT L = true
  size : ∀ x ∈ L, size1 x ≤ 1139
  lab : ∀ x ∈ L, x.kind = 2 ∨ x.kind = 3 → x.name ∈ endName :: names8
theorem Led.fit {O L : List Itm} {Nm : List ByteArray} (h : FitInv O Nm) (hl : Led O L Nm O.length) (h1 : 1 ≤ O.length) (h2 : O.length ≤ 17) : FitOk L := by
  have key : ∀ (j : Nat) (y : Itm), L[j]? = some y → ∃ x, O[j]? = some x ∧ x ∈ O ∧ ((x.kind ≠ 3 ∧ y = x) ∨ (x.kind = 3 ∧ ∃ s ∈ Nm, y = ⟨x.kind, x.i, s, x.n⟩)) := by
    intro j y hy
    have hlt : j < O.length := by rw [← hl.len]; exact (List.getElem?_eq_some_iff.1 hy).1
    have hx : O[j]? = some O[j] := List.getElem?_eq_getElem hlt
    refine ⟨O[j], hx, List.getElem_mem _, ?_⟩
    by_cases h3 : (O[j]).kind = 3
    · obtain ⟨s, hs, e⟩ := hl.led j _ hx h3 hlt
      rw [hy] at e
      exact Or.inr ⟨h3, s, hs, Option.some.inj e⟩
    · have e := hl.same j _ hx (Or.inl h3)
      rw [hy] at e
      exact Or.inl ⟨h3, Option.some.inj e⟩
  have hmem : ∀ y ∈ L, rightX y = true ∧ Itm.wf y ∧ size1 y ≤ 1139 ∧ (y.kind = 2 ∨ y.kind = 3 → y.name ∈ endName :: names8) ∧ (y.kind = 3 → y.name ∈ Nm) := by
    intro y hy
    obtain ⟨j, hj⟩ := List.mem_iff_getElem?.1 hy
    obtain ⟨x, hx, hxO, ⟨h3, rfl⟩ | ⟨h3, s, hs, rfl⟩⟩ := key j y hj
    · obtain ⟨r1, r2, r3⟩ := h.right y hxO
      refine ⟨r1, r2, r3, fun c => ?_, fun c => absurd c h3⟩
      rcases c with c | c
      · exact h.sub _ (h.lab y hxO c)
      · exact absurd c h3
    · obtain ⟨r1, r2, r3⟩ := h.right x hxO
      have hl8 := names8_lab s (h.sub s hs)
      have hs8 := names8_size s (h.sub s hs)
      refine ⟨?_, ⟨r2.kind, r2.i, by unfold maxLen; simp only; omega, r2.n⟩, r3, fun _ => h.sub s hs, fun _ => hs⟩
      unfold rightX at r1 ⊢
      simp only [h3] at r1 ⊢
      rw [if_neg (by decide), if_neg (by decide), if_pos trivial] at r1 ⊢
      simp only [Bool.and_eq_true] at r1 ⊢
      exact ⟨r1.1, hl8⟩
  refine ⟨by rw [hl.len]; exact h1, by rw [hl.len]; exact h2, fun y hy => ⟨(hmem y hy).1, (hmem y hy).2.1⟩, okT_of ?_ ?_, fun y hy => (hmem y hy).2.2.1, fun y hy => (hmem y hy).2.2.2.1⟩
  · intro i j a b hij ha hb k2 k2'
    obtain ⟨x, hx, _, ⟨_, rfl⟩ | ⟨h3, s, _, rfl⟩⟩ := key i a ha
    · obtain ⟨z, hz, _, ⟨_, rfl⟩ | ⟨h3, s, _, rfl⟩⟩ := key j b hb
      · exact h.once' i j a b hij hx hz k2 k2'
      · simp only at k2'; omega
    · simp only at k2; omega
  · intro x hx h3
    obtain ⟨y, hy, y2, yn⟩ := h.has x.name ((hmem x hx).2.2.2.2 h3)
    obtain ⟨j, hj⟩ := List.mem_iff_getElem?.1 hy
    exact ⟨y, List.mem_of_getElem? (hl.same j y hj (Or.inl (by omega))), y2, yn⟩
end Go.Proofs.Ytjjbfeoidceiiaa
/- Of raw items such that may be: the law's Fit. -/
namespace Go.Proofs.Ytjjbfeoidceiiaa
open Go.RowKit Rv Lb
set_option linter.unusedVariables false
theorem info_itm : ∃ i : TypeInfo, Try.prog.info? 26 = some i ∧ (∃ z, i.zero = some z ∧ z.cells.size = 8) ∧ i.size = 8 ∧ i.bytes = 72 := ⟨(Try.prog.info? 26).get (by kernel_rfl), by kernel_rfl, ⟨.agg #[.int .i64 0, .int .i64 0, .int .i64 0, .int .i64 0, .int .i64 0, .int .i64 0, .string ⟨#[]⟩, .int .i64 0], by kernel_rfl, rfl⟩, by kernel_rfl, by kernel_rfl⟩
theorem info_str : ∃ i : TypeInfo, Try.prog.info? 9 = some i ∧ (∃ z, i.zero = some z ∧ z.cells.size = 1) ∧ i.size = 1 ∧ i.bytes = 16 := ⟨(Try.prog.info? 9).get (by kernel_rfl), by kernel_rfl, ⟨.string ⟨#[]⟩, by kernel_rfl, rfl⟩, by kernel_rfl, by kernel_rfl⟩
abbrev XRow (w : World) (base : Nat) (v : Value) (l : List Itm) : Prop := w.ownsRow base 26 8 v l.length (l.flatMap cells8)
abbrev SRow (w : World) (base : Nat) (v : Value) (l : List ByteArray) : Prop := w.ownsRow base 9 1 v l.length (l.map Value.string)
theorem xrow_one {w : World} {base : Nat} {v : Value} {l : List Itm} (h : XRow w base v l) (ty : TypeId) (B : Nat) (y : Itm) (hc : ∀ j u, (cells8 y)[j]? = some u → w.cell? ⟨B, j, none⟩ = some u) (hlen : l.length ≤ 1000) (hbase : base ≤ w.heap.size) :
    ∃ v' w', (Builtin.append_ #[22, 22] ty #[v, .slice (some ⟨B, 0, none⟩) 1 1]).run Try.prog w = .ok v' w' ∧ XRow w' base v' (l ++ [y]) ∧ Sav (fun k => v.ownBlock = some k) w w' ∧ v' ≠ .slice none 0 0 := by
  obtain ⟨i, hi, ⟨z, hz, hzs⟩, hsz, hb⟩ := info_itm
  obtain ⟨v', w', hrun, h1, h2, h3⟩ := append_sav (P := Try.prog) w base 22 ty 26 i z 8 72 Try.underlying22 hi hz hsz hb hzs (by decide) v l.length _ h ⟨B, 0, none⟩ 1 1 (cells8 y) rfl
    (by intro j u hj; rw [Addr.add_lit, Nat.zero_add]; exact hc j u hj) (by intro u hu; simp only [cells8, List.mem_cons, List.not_mem_nil, or_false] at hu; rcases hu with rfl | rfl | rfl | rfl | rfl | rfl | rfl | rfl <;> rfl) (by unfold maxLen; omega) (by omega) hbase (Or.inl (by omega))
  have e1 : (l ++ [y]).length = l.length + 1 := by simp
  have e2 : (l ++ [y]).flatMap cells8 = l.flatMap cells8 ++ cells8 y := by simp
  refine ⟨v', w', hrun, ?_, h2, h3⟩
  unfold XRow
  rw [e1, e2]
  exact h1
theorem srow_one {w : World} {base : Nat} {v : Value} {l : List ByteArray} (h : SRow w base v l) (ty : TypeId) (B : Nat) (s : ByteArray) (hc : w.cell? ⟨B, 0, none⟩ = some (.string s)) (hlen : l.length ≤ 1000) (hbase : base ≤ w.heap.size) :
    ∃ v' w', (Builtin.append_ #[53, 53] ty #[v, .slice (some ⟨B, 0, none⟩) 1 1]).run Try.prog w = .ok v' w' ∧ SRow w' base v' (l ++ [s]) ∧ Sav (fun k => v.ownBlock = some k) w w' ∧ v' ≠ .slice none 0 0 := by
  obtain ⟨i, hi, ⟨z, hz, hzs⟩, hsz, hb⟩ := info_str
  obtain ⟨v', w', hrun, h1, h2, h3⟩ := append_sav (P := Try.prog) w base 53 ty 9 i z 1 16 Try.underlying53 hi hz hsz hb hzs (by decide) v l.length _ h ⟨B, 0, none⟩ 1 1 [.string s] rfl
    (by intro j u hj
        match j, hj with
        | 0, hj => rw [← hj]; exact hc)
    (by intro u hu; simp at hu; subst hu; rfl) (by unfold maxLen; omega) (by omega) hbase (Or.inl (by omega))
  refine ⟨v', w', hrun, ?_, h2, h3⟩
  have e1 : (l ++ [s]).length = l.length + 1 := by simp
  unfold SRow
  rw [e1, List.map_append]
  exact h1
/-- at the head of Fit's first loop -/
structure Fa (w wr : World) (v u : Value) (O : List Itm) (Nm : List ByteArray) (k : Nat) : Prop where
  both : Both w wr
  out : XRow wr w.heap.size v O
  nam : SRow wr w.heap.size u Nm
  inv : FitInv O Nm
  len : O.length ≤ k
  few : Nm.length ≤ k
  apart : ∀ i j, v.ownBlock = some i → u.ownBlock = some j → i ≠ j
theorem Fa.both' {w wr w' : World} {v u : Value} {O : List Itm} {Nm : List ByteArray} {k : Nat} (h : Fa w wr v u O Nm k) (hb : Both wr w') : Fa w w' v u O Nm k :=
  ⟨h.both.trans hb, ownsRow_sav h.out (hb.sav fun _ => False) (fun _ _ => id), ownsRow_sav h.nam (hb.sav fun _ => False) (fun _ _ => id), h.inv, h.len, h.few, h.apart⟩
/-- rows of unlike kinds lie in unlike blocks -/
theorem unlike {w : World} {b1 b2 e1 e2 s1 s2 n1 n2 : Nat} {v u : Value} {x1 x2 : List Value} (h1 : w.ownsRow b1 e1 s1 v n1 x1) (h2 : w.ownsRow b2 e2 s2 u n2 x2) (he : e1 ≠ e2) : ∀ i j, v.ownBlock = some i → u.ownBlock = some j → i ≠ j := by
  intro i j hi hj e
  subst e
  rcases h1.2 with ⟨rfl, _⟩ | ⟨g, cap, cur, rfl, _, hg, _⟩
  · cases hi
  · rcases h2.2 with ⟨rfl, _⟩ | ⟨g', cap', cur', rfl, _, hg', _⟩
    · cases hj
    · have e1 : g = i := Option.some.inj hi
      have e2 : g' = i := Option.some.inj hj
      rw [e1] at hg
      rw [e2, hg] at hg'
      simp at hg'
      exact he hg'.2
theorem Fa.put {w wr w' : World} {v v' u : Value} {O : List Itm} {Nm : List ByteArray} {k : Nat} {y : Itm} (h : Fa w wr v u O Nm k) (hr : XRow w' w.heap.size v' (O ++ [y])) (hs : Sav (fun j => v.ownBlock = some j) wr w') (hi : FitInv (O ++ [y]) Nm) : Fa w w' v' u (O ++ [y]) Nm (k + 1) := by
  have hn : SRow w' w.heap.size u Nm := ownsRow_sav h.nam hs (fun j hj e => h.apart j j e hj rfl)
  exact ⟨hs.both h.both (fun j hj => (h.out.lt j hj).1), hr, hn, hi, by rw [List.length_append, List.length_singleton]; have := h.len; omega, Nat.le_succ_of_le h.few, unlike hr hn (by decide)⟩
theorem Fa.more {w wr : World} {v u : Value} {O : List Itm} {Nm : List ByteArray} {k : Nat} (h : Fa w wr v u O Nm k) : Fa w wr v u O Nm (k + 1) := ⟨h.both, h.out, h.nam, h.inv, Nat.le_succ_of_le h.len, Nat.le_succ_of_le h.few, h.apart⟩
/-- a new name -/
theorem Fa.name {w wr w' : World} {v u u' : Value} {O : List Itm} {Nm Nm' : List ByteArray} (hb : Both w wr) (ho : XRow wr w.heap.size v O) (hn : SRow wr w.heap.size u Nm) (hr : SRow w' w.heap.size u' Nm') (hs : Sav (fun j => u.ownBlock = some j) wr w') : Both w w' ∧ XRow w' w.heap.size v O :=
  ⟨hs.both hb (fun j hj => (hn.lt j hj).1), ownsRow_sav ho hs (fun j hj e => unlike ho hn (by decide) j j hj e rfl)⟩
def FitIs (w : World) (e : Ending) (w' : World) : Prop := ∃ B c L, e = .returned (.slice (some ⟨B, 0, none⟩) L.length c) ∧ ItemsAt w' B 0 L ∧ Both w w' ∧ FitOk L ∧ L.length ≤ c ∧ c ≤ 9223372036854775807
theorem wpList_xrow {ops : Array Oper} {rest : List Oper} {o : Oper} {a : Act} {w : World} {Q : Exit → Act → World → Prop} (hgd : o.guard = none) (s x : Operand)
    (ho : o.op = .call { callee := .builtin .append, args := #[s, x], argTypes := #[22, 22] }) (base : Nat) (v : Value) (l : List Itm) (hs : a.eval s = v) (h : XRow w base v l) (B : Nat) (y : Itm) (hx : a.eval x = .slice (some ⟨B, 0, none⟩) 1 1)
    (hc : ∀ j u, (cells8 y)[j]? = some u → w.cell? ⟨B, j, none⟩ = some u) (hlen : l.length ≤ 1000) (hbase : base ≤ w.heap.size)
    (hK : ∀ v' w', XRow w' base v' (l ++ [y]) → Sav (fun k => v.ownBlock = some k) w w' → v' ≠ .slice none 0 0 → wpList Try.prog ops Q rest (a.put o.dst v') w') : wpList Try.prog ops Q (o :: rest) a w := by
  obtain ⟨v', w', hrun, h1, h2, h3⟩ := xrow_one h o.type B y hc hlen hbase
  exact wpList_app hgd s x _ ho v _ v' hs hx hrun (hK v' w' h1 h2 h3)
theorem wpList_srow {ops : Array Oper} {rest : List Oper} {o : Oper} {a : Act} {w : World} {Q : Exit → Act → World → Prop} (hgd : o.guard = none) (s x : Operand)
    (ho : o.op = .call { callee := .builtin .append, args := #[s, x], argTypes := #[53, 53] }) (base : Nat) (v : Value) (l : List ByteArray) (hs : a.eval s = v) (h : SRow w base v l) (B : Nat) (y : ByteArray) (hx : a.eval x = .slice (some ⟨B, 0, none⟩) 1 1)
    (hc : w.cell? ⟨B, 0, none⟩ = some (.string y)) (hlen : l.length ≤ 1000) (hbase : base ≤ w.heap.size)
    (hK : ∀ v' w', SRow w' base v' (l ++ [y]) → Sav (fun k => v.ownBlock = some k) w w' → v' ≠ .slice none 0 0 → wpList Try.prog ops Q rest (a.put o.dst v') w') : wpList Try.prog ops Q (o :: rest) a w := by
  obtain ⟨v', w', hrun, h1, h2, h3⟩ := srow_one h o.type B y hc hlen hbase
  exact wpList_app hgd s x _ ho v _ v' hs hx hrun (hK v' w' h1 h2 h3)
theorem new8 (W : World) (t : TypeId) (y : Itm) : ∀ j u, (cells8 y)[j]? = some u → (W.alloc (.cells #[.int .i64 y.kind, .int .i64 y.i.op, .int .i64 y.i.d, .int .i64 y.i.a, .int .i64 y.i.b, .int .i64 y.i.n, .string y.name, .int .i64 y.n] t)).cell? ⟨W.heap.size, j, none⟩ = some u := by
  intro j u hj
  rw [← List.getElem?_toArray] at hj
  exact (World.cell?_alloc_new W _ _ j).trans hj
/-- one round of Fit's first loop: what it must hand on -/
def FaAny (w wr : World) (v u : Value) (k : Nat) : Prop := ∃ O Nm, Fa w wr v u O Nm k
theorem SRow.form {w : World} {base : Nat} {v : Value} {l : List ByteArray} (h : SRow w base v l) : (v = .slice none 0 0 ∧ l = []) ∨ ∃ B c, v = .slice (some ⟨B, 0, none⟩) l.length c ∧ base ≤ B ∧ B < w.heap.size ∧ ∀ (j : Nat) (s : ByteArray), l[j]? = some s → w.cell? ⟨B, j, none⟩ = some (.string s) := by
  rcases h.2 with ⟨hv, h0⟩ | ⟨g, cap, cur, rfl, hb, hg, hnc, hcm, hcs, htake⟩
  · exact Or.inl ⟨hv, List.eq_nil_of_length_eq_zero (by simpa using h0)⟩
  · have hlt := (Array.getElem?_eq_some_iff.1 hg).1
    refine Or.inr ⟨g, cap, rfl, hb, hlt, fun j i hj => ?_⟩
    rw [World.ownsRow.cellAt h j (by have := (List.getElem?_eq_some_iff.1 hj).1; omega)]
    rw [List.getElem?_map, hj]
    rfl
theorem XRow.form {w : World} {base : Nat} {v : Value} {l : List Itm} (h : XRow w base v l) (hne : v ≠ .slice none 0 0) : ∃ B c, v = .slice (some ⟨B, 0, none⟩) l.length c ∧ base ≤ B ∧ ItemsAt w B 0 l ∧ (∀ j, w.frozen? ⟨B, j, none⟩ = false) ∧ l.length ≤ c ∧ c ≤ 9223372036854775807 := by
  rcases h.2 with ⟨rfl, _⟩ | ⟨g, cap, cur, rfl, hb, hg, hnc, hcm, hcs, htake⟩
  · exact absurd rfl hne
  · have hlt := (Array.getElem?_eq_some_iff.1 hg).1
    refine ⟨g, cap, rfl, hb, ⟨hlt, fun j x hj k u hu => ?_⟩, fun j => World.ownsRow.frozenAt h j, hnc, by unfold maxLen at hcm; omega⟩
    have hjl := (List.getElem?_eq_some_iff.1 hj).1
    have hk8 : k < 8 := by have := (List.getElem?_eq_some_iff.1 hu).1; simpa [cells8] using this
    rw [Nat.zero_add, World.ownsRow.cellAt h (j * 8 + k) (by omega)]
    exact flat8_get hj hu
theorem step_xrow {ops : Array Oper} {o : Oper} {a : Act} {w : World} {K : Act → World → Prop} {Q : Exit → Act → World → Prop} {E : Prop} (hg : o.guard = none) (s x : Operand)
    (hop : o.op = .call { callee := .builtin .append, args := #[s, x], argTypes := #[22, 22] }) (base : Nat) (v : Value) (l : List Itm) (hs : a.eval s = v) (h : XRow w base v l) (B : Nat) (y : Itm) (hx : a.eval x = .slice (some ⟨B, 0, none⟩) 1 1)
    (hc : ∀ j u, (cells8 y)[j]? = some u → w.cell? ⟨B, j, none⟩ = some u) (hlen : l.length ≤ 1000) (hbase : base ≤ w.heap.size)
    (hK : ∀ v' w', XRow w' base v' (l ++ [y]) → Sav (fun k => v.ownBlock = some k) w w' → v' ≠ .slice none 0 0 → K (a.put o.dst v') w') : if Region.wanted o (yielded ops a.tmps) = true then Oper.wp Try.prog o a w K Q else E := by
  obtain ⟨v', w', hrun, h1, h2, h3⟩ := xrow_one h o.type B y hc hlen hbase
  exact step_app hg s x _ hop v _ v' hs hx hrun (hK v' w' h1 h2 h3)
/-- the ways of a region that draws its order meet again -/
theorem wp_meet {P : Program} {c : Code} {Q : Exit → Act → World → Prop} {a : Act} {w : World} (A : Act) (W : World) (h : c.wp P (fun e a' w' => e = .normal ∧ a' = A ∧ w' = W) a w) (hq : Q .normal A W) : c.wp P Q a w :=
  Code.wp_mono (fun e a' w' q => by obtain ⟨rfl, rfl, rfl⟩ := q; exact hq) h
def hadTo (l : List ByteArray) (s : ByteArray) (j : Nat) : Bool := (l.take j).any fun t => decide (t = s)
theorem hadTo_succ {l : List ByteArray} {j : Nat} {t : ByteArray} (s : ByteArray) (h : l[j]? = some t) : hadTo l s (j + 1) = (hadTo l s j || decide (t = s)) := by
  obtain ⟨hl, e⟩ := List.getElem?_eq_some_iff.1 h
  unfold hadTo
  rw [List.take_succ_eq_append_getElem hl, e, List.any_append]
  simp
theorem hadTo_all {l : List ByteArray} {s : ByteArray} : hadTo l s l.length = true ↔ s ∈ l := by
  unfold hadTo
  rw [List.take_length, List.any_eq_true]
  constructor
  · rintro ⟨t, ht, e⟩
    rw [decide_eq_true_eq] at e
    exact e ▸ ht
  · intro h
    exact ⟨s, h, by simp⟩
theorem right_wf {i : Ins} (h : right i = true) : Ins.wf i := by
  obtain ⟨⟨o1, o2⟩, ⟨d1, d2⟩, ⟨a1, a2⟩, ⟨b1, b2⟩, ⟨n1, n2⟩⟩ := right_bd h
  refine ⟨zin ?_ ?_, zin ?_ ?_, zin ?_ ?_, zin ?_ ?_, zin ?_ ?_⟩ <;> omega
theorem ok_ins {i : Ins} (h : right i = true) : rightX ⟨1, i, ⟨#[]⟩, 0⟩ = true ∧ Itm.wf ⟨1, i, ⟨#[]⟩, 0⟩ ∧ size1 ⟨1, i, ⟨#[]⟩, 0⟩ ≤ 1139 := by
  refine ⟨?_, ⟨zin (by simp) (by simp), right_wf h, by unfold maxLen; simp [ByteArray.size], zin (by simp) (by simp)⟩, by simp [size1]⟩
  unfold rightX
  simp [h, ByteArray.size]
theorem ok_to {i : Ins} {s : ByteArray} (hl : leads i = true) (hs : s ∈ names8) : rightX ⟨3, i, s, 0⟩ = true ∧ Itm.wf ⟨3, i, s, 0⟩ ∧ size1 ⟨3, i, s, 0⟩ ≤ 1139 := by
  have h1 := names8_lab s (List.mem_cons_of_mem _ hs)
  have h2 := names8_size s (List.mem_cons_of_mem _ hs)
  have hr : right i = true := by
    unfold leads at hl
    simp only [Bool.and_eq_true] at hl
    exact hl.2
  refine ⟨?_, ⟨zin (by simp) (by simp), right_wf hr, by unfold maxLen; simp only; omega, zin (by simp) (by simp)⟩, by simp [size1]⟩
  unfold rightX
  simp [h1, hl]
theorem leads_br {po pa pb : Int} (o1 : 0 ≤ po) (o2 : po < 6) (a1 : 0 ≤ pa) (a2 : pa < 32) (b1 : 0 ≤ pb) (b2 : pb < 32) : leads ⟨5 + po, 0, pa, pb, 0⟩ = true := by
  have h6 : po = 0 ∨ po = 1 ∨ po = 2 ∨ po = 3 ∨ po = 4 ∨ po = 5 := by omega
  have hf : form (5 + po) = 66 := by rcases h6 with rfl | rfl | rfl | rfl | rfl | rfl <;> decide +kernel
  have hb : isB (5 + po) = true := by unfold isB; rw [decide_eq_true_eq]; omega
  unfold leads right
  simp only [hf, hb]
  simp [hasD, hasA, hasB, num, reg]
  omega
theorem leads_jal {pa : Int} (a1 : 0 ≤ pa) (a2 : pa < 32) : leads ⟨3, pa, 0, 0, 0⟩ = true := by
  have hf : form 3 = 74 := by decide +kernel
  unfold leads right
  simp only [hf]
  simp [hasD, hasA, hasB, num, reg]
  omega
theorem ok_num {d n : Int} (h1 : 1 ≤ d) (h2 : d < 32) (n1 : -2147483648 ≤ n) (n2 : n ≤ 2147483647) : rightX ⟨4, ⟨0, d, 0, 0, 0⟩, ⟨#[]⟩, n⟩ = true ∧ Itm.wf ⟨4, ⟨0, d, 0, 0, 0⟩, ⟨#[]⟩, n⟩ ∧ size1 ⟨4, ⟨0, d, 0, 0, 0⟩, ⟨#[]⟩, n⟩ ≤ 1139 := by
  refine ⟨?_, ⟨zin (by simp) (by simp), ⟨zin (by simp) (by simp), zin (by simp; omega) (by simp; omega), zin (by simp) (by simp), zin (by simp) (by simp), zin (by simp) (by simp)⟩, by unfold maxLen; simp [ByteArray.size], ⟨by simp; omega, by simp; omega⟩⟩, ?_⟩
  · unfold rightX onlyD mayLoad
    simp [ByteArray.size, h1, h2, n1, n2]
  · have := number_len d n
    simp [size1]
    omega
theorem ok_nops {n : Int} (n1 : 0 ≤ n) (n2 : n ≤ 1139) : rightX ⟨5, ⟨0, 0, 0, 0, 0⟩, ⟨#[]⟩, n⟩ = true ∧ Itm.wf ⟨5, ⟨0, 0, 0, 0, 0⟩, ⟨#[]⟩, n⟩ ∧ size1 ⟨5, ⟨0, 0, 0, 0, 0⟩, ⟨#[]⟩, n⟩ ≤ 1139 := by
  refine ⟨?_, ⟨zin (by simp) (by simp), ⟨zin (by simp) (by simp), zin (by simp) (by simp), zin (by simp) (by simp), zin (by simp) (by simp), zin (by simp) (by simp)⟩, by unfold maxLen; simp [ByteArray.size], ⟨by simp; omega, by simp; omega⟩⟩, ?_⟩
  · unfold rightX onlyD
    simp [ByteArray.size, n1]
    omega
  · simp [size1]
    omega
theorem fit3_lit {i : Ins} {fo fd fa fb fn : Int} (h : fit i = ⟨fo, fd, fa, fb, fn⟩) (hi : Ins.wf i) (w : World) : Calls Try.prog 30 #[ival i] w fun e w' => e = .returned (.agg #[.int .i64 fo, .int .i64 fd, .int .i64 fa, .int .i64 fb, .int .i64 fn]) ∧ Both w w' := by
  have := fit_any i hi w
  rw [h] at this
  exact this
theorem Fa.bound {w wr : World} {v u : Value} {O : List Itm} {Nm : List ByteArray} {k : Nat} (h : Fa w wr v u O Nm k) (hk : k ≤ 16) : O.length ≤ 1000 ∧ w.heap.size ≤ wr.heap.size := ⟨by have := h.len; omega, h.both.1.size⟩
theorem Fa.lab {w wr w2 w3 : World} {v v' u u' : Value} {O : List Itm} {Nm : List ByteArray} {k : Nat} {s : ByteArray} (h : Fa w wr v u O Nm k) (h1 : SRow w2 w.heap.size u' (Nm ++ [s])) (h2 : Sav (fun j => u.ownBlock = some j) wr w2)
    (g1 : XRow w3 w.heap.size v' (O ++ [labI s])) (g2 : Sav (fun j => v.ownBlock = some j) w2 w3) (hi : FitInv (O ++ [labI s]) (Nm ++ [s])) : Fa w w3 v' u' (O ++ [labI s]) (Nm ++ [s]) (k + 1) := by
  have ho : XRow w2 w.heap.size v O := ownsRow_sav h.out h2 (fun j hj e => h.apart j j hj e rfl)
  have hn : SRow w3 w.heap.size u' (Nm ++ [s]) := ownsRow_sav h1 g2 (fun j hj e => unlike ho h1 (by decide) j j e hj rfl)
  exact ⟨g2.both (h2.both h.both (fun j hj => (h.nam.lt j hj).1)) (fun j hj => (ho.lt j hj).1), g1, hn, hi, by rw [List.length_append, List.length_singleton]; have := h.len; omega, by rw [List.length_append, List.length_singleton]; have := h.few; omega, unlike g1 hn (by decide)⟩
theorem SRow.some {w : World} {base : Nat} {v : Value} {l : List ByteArray} (h : SRow w base v l) : ∃ (UB : Option Addr) (uc : Nat), v = .slice UB l.length uc ∧ Hid (∀ (j : Nat) (t : ByteArray), l[j]? = some t → ∃ g, UB = some ⟨g, 0, none⟩ ∧ w.cell? ⟨g, j, none⟩ = some (.string t)) := by
  rcases h.form with ⟨h1, h2⟩ | ⟨g, uc, h1, _, _, h2⟩
  · exact ⟨none, 0, by rw [h1, h2]; rfl, fun j t hj => by rw [h2] at hj; simp at hj⟩
  · exact ⟨_, uc, h1, fun j t hj => ⟨g, rfl, h2 j t hj⟩⟩
theorem XRow.ne {w : World} {base : Nat} {v : Value} {l : List Itm} (h : XRow w base v l) (h1 : 1 ≤ l.length) : v ≠ .slice none 0 0 := by
  rcases h.2 with ⟨hv, h0⟩ | ⟨g, cap, cur, rfl, _⟩
  · have h2 : l.length = 0 := by simpa using h0
    omega
  · intro e
    cases e
theorem Fa.set {w W : World} {v u : Value} {O : List Itm} {Nm : List ByteArray} {k B i : Nat} (h : Fa w W v u O Nm k) (hb : w.heap.size ≤ B) (ho : ∀ j, v.ownBlock = some j → j ≠ B) (hn : ∀ j, u.ownBlock = some j → j ≠ B) (x : Value) : Fa w (W.setCell ⟨B, i, none⟩ x) v u O Nm k := by
  have hs : Sav (fun k => k = B) W (W.setCell ⟨B, i, none⟩ x) := Sav.setCell (S := fun k => k = B) (p := ⟨B, i, none⟩) (Sav.refl _ W) (Or.inl rfl) _
  exact ⟨hs.both h.both (fun j hj => by subst hj; exact hb), ownsRow_sav h.out hs ho, ownsRow_sav h.nam hs hn, h.inv, h.len, h.few, h.apart⟩
theorem set5 {w : World} {R : Nat} {x0 x1 x2 x3 x4 : Value} {t : TypeId} (h : w.heap[R]? = some (.cells #[x0, x1, x2, x3, x4] t (0, 0))) (v0 v1 v2 v3 v4 : Value) :
    (((((w.setCell ⟨R, 0, none⟩ v0).setCell ⟨R, 1, none⟩ v1).setCell ⟨R, 2, none⟩ v2).setCell ⟨R, 3, none⟩ v3).setCell ⟨R, 4, none⟩ v4).heap[R]? = some (.cells #[v0, v1, v2, v3, v4] t (0, 0)) := by
  have step : ∀ (W : World) (cs : Array Value) (i : Nat) (v : Value), W.heap[R]? = some (.cells cs t (0, 0)) → (W.setCell ⟨R, i, none⟩ v).heap[R]? = some (.cells (cs.setIfInBounds i v) t (0, 0)) := fun W cs i v hW => by
    rw [setCell_eq_setRow W R i cs t (0, 0) v hW]
    exact setRow_heap _ _ _ _ _ _ hW
  exact step _ _ 4 v4 (step _ _ 3 v3 (step _ _ 2 v2 (step _ _ 1 v1 (step _ _ 0 v0 h))))
theorem Fa.set5 {w W : World} {v u : Value} {O : List Itm} {Nm : List ByteArray} {k B : Nat} (h : Fa w W v u O Nm k) (hb : w.heap.size ≤ B) (ho : ∀ j, v.ownBlock = some j → j ≠ B) (hn : ∀ j, u.ownBlock = some j → j ≠ B) (v0 v1 v2 v3 v4 : Value) :
    Fa w (((((W.setCell ⟨B, 0, none⟩ v0).setCell ⟨B, 1, none⟩ v1).setCell ⟨B, 2, none⟩ v2).setCell ⟨B, 3, none⟩ v3).setCell ⟨B, 4, none⟩ v4) v u O Nm k :=
  ((((h.set hb ho hn v0).set hb ho hn v1).set hb ho hn v2).set hb ho hn v3).set hb ho hn v4
theorem Led.start (O : List Itm) (Nm : List ByteArray) : Led O O Nm 0 := ⟨rfl, fun j x hx _ => hx, fun j x hx h3 hj => absurd hj (Nat.not_lt_zero _)⟩
theorem Led.skip {O L : List Itm} {Nm : List ByteArray} {j : Nat} {x : Itm} (h : Led O L Nm j) (hx : L[j]? = some x) (hk : x.kind ≠ 3) : Led O L Nm (j + 1) := by
  refine ⟨h.len, fun i y hy hh => ?_, fun i y hy h3 hi => ?_⟩
  · exact h.same i y hy (by rcases hh with e | e; exact Or.inl e; exact Or.inr (by omega))
  · by_cases e : i < j
    · exact h.led i y hy h3 e
    · obtain rfl : i = j := by omega
      have := h.same i y hy (Or.inr (Nat.le_refl _))
      rw [hx] at this
      obtain rfl := Option.some.inj this
      exact absurd h3 hk
theorem Led.put {O L : List Itm} {Nm : List ByteArray} {j : Nat} {x : Itm} {t : ByteArray} (h : Led O L Nm j) (hx : L[j]? = some x) (ht : t ∈ Nm) (hk3 : x.kind = 3) : Led O (L.set j ⟨x.kind, x.i, t, x.n⟩) Nm (j + 1) := by
  have hjl := (List.getElem?_eq_some_iff.1 hx).1
  have hO : O[j]? = some x := by
    have h1 : O[j]? = some (O[j]'(by rw [← h.len]; exact hjl)) := List.getElem?_eq_getElem _
    have h2 := h.same j _ h1 (Or.inr (Nat.le_refl _))
    rw [hx] at h2
    rw [h1, Option.some.inj h2]
  refine ⟨by rw [List.length_set]; exact h.len, fun i y hy hh => ?_, fun i y hy h3 hi => ?_⟩
  · by_cases e : i = j
    · subst e
      rw [hO] at hy
      obtain rfl := Option.some.inj hy
      rcases hh with c | c
      · exact absurd hk3 c
      · omega
    · rw [List.getElem?_set_ne (fun c => e c.symm)]
      exact h.same i y hy (by rcases hh with c | c; exact Or.inl c; exact Or.inr (by omega))
  · by_cases e : i = j
    · subst e
      rw [hO] at hy
      obtain rfl := Option.some.inj hy
      exact ⟨t, ht, by rw [List.getElem?_set_self hjl]⟩
    · obtain ⟨s, hs, hh⟩ := h.led i y hy h3 (by omega)
      exact ⟨s, hs, by rw [List.getElem?_set_ne (fun c => e c.symm)]; exact hh⟩
structure Fl (w wr : World) (B G : Nat) (O L : List Itm) (Nm : List ByteArray) (k : Nat) : Prop where
  both : Both w wr
  items : ItemsAt wr B 0 L
  fro : ∀ j, wr.frozen? ⟨B, j, none⟩ = false
  names : ∀ (j : Nat) (t : ByteArray), Nm[j]? = some t → wr.cell? ⟨G, j, none⟩ = some (.string t)
  led : Led O L Nm k
theorem Fl.put {w wr : World} {B G : Nat} {O L : List Itm} {Nm : List ByteArray} {k : Nat} {x : Itm} {t : ByteArray} (h : Fl w wr B G O L Nm k) (hB : w.heap.size ≤ B) (hBG : B ≠ G) (hx : L[k]? = some x) (h3 : x.kind = 3) (ht : t ∈ Nm) :
    Fl w (wr.setCell ⟨B, k * 8 + 6, none⟩ (.string t)) B G O (L.set k ⟨x.kind, x.i, t, x.n⟩) Nm (k + 1) := by
  have hjl := (List.getElem?_eq_some_iff.1 hx).1
  refine ⟨h.both.setCell hB _, ⟨by simp; exact h.items.1, fun j y hy i v hv => ?_⟩, fun j => (World.frozen?_setCell _ _ _ _).trans (h.fro j), fun j u hu => (World.cell?_setCell_other _ _ _ _ (fun e => hBG (congrArg Addr.block e))).trans (h.names j u hu), h.led.put hx ht h3⟩
  have hi8 : i < 8 := by have := (List.getElem?_eq_some_iff.1 hv).1; simpa [cells8] using this
  rw [Nat.zero_add]
  by_cases e : j = k
  · subst e
    rw [List.getElem?_set_self hjl] at hy
    obtain rfl := Option.some.inj hy
    by_cases e6 : i = 6
    · subst e6
      have hc6 := h.items.2 j x hx 6 (.string x.name) rfl
      rw [Nat.zero_add] at hc6
      rw [World.cell?_setCell_same _ _ _ hc6]
      exact hv
    · rw [World.cell?_setCell_other _ _ _ _ (fun c => e6 (by have := congrArg Addr.off c; simp only at this; omega))]
      have := h.items.2 j x hx i v (by
        match i, hv, hi8, e6 with
        | 0, hv, _, _ => exact hv
        | 1, hv, _, _ => exact hv
        | 2, hv, _, _ => exact hv
        | 3, hv, _, _ => exact hv
        | 4, hv, _, _ => exact hv
        | 5, hv, _, _ => exact hv
        | 7, hv, _, _ => exact hv)
      rw [Nat.zero_add] at this
      exact this
  · rw [List.getElem?_set_ne (fun c => e c.symm)] at hy
    rw [World.cell?_setCell_other _ _ _ _ (fun c => e (by have := congrArg Addr.off c; simp only at this; omega))]
    have := h.items.2 j y hy i v hv
    rw [Nat.zero_add] at this
    exact this
theorem Fl.fit {w wr : World} {B G : Nat} {O L : List Itm} {Nm : List ByteArray} (h : Fl w wr B G O L Nm O.length) (hi : FitInv O Nm) (h1 : 1 ≤ O.length) (h2 : O.length ≤ 17) (c : Nat) (h3 : O.length ≤ c) (h4 : c ≤ 9223372036854775807) : FitIs w (.returned (.slice (some ⟨B, 0, none⟩) O.length c)) wr :=
  ⟨B, c, L, by rw [h.led.len], h.items, h.both, h.led.fit hi h1 h2, by rw [h.led.len]; exact h3, h4⟩
theorem to_size {i : Ins} {s : ByteArray} {n : Int} (h : rightX ⟨3, i, s, n⟩ = true) : s.size ≤ 40 := by
  unfold rightX at h
  rw [if_neg (by simp), if_neg (by simp), if_pos rfl] at h
  simp only [Bool.and_eq_true] at h
  have h2 := h.2
  unfold isLab at h2
  simp only [Bool.and_eq_true, decide_eq_true_eq] at h2
  exact h2.1.2
end Go.Proofs.Ytjjbfeoidceiiaa
