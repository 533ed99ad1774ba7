/- Of a raw image one that may be: in plain words; rows of the law's own grow by one. -/
import Derived.Test.YtbfmlbcjggplgaaGreatDoorIAwk
namespace Go.Proofs.YtbfmlbcjggplgaaGreatDoor
open Go.RowKit Im
set_option linter.unusedVariables false
def names : List ByteArray := [⟨#[46, 120]⟩, ⟨#[97]⟩, ⟨#[97, 98]⟩, ⟨#[98]⟩, ⟨#[99, 111, 100, 101]⟩, ⟨#[109, 97, 105, 110]⟩, ⟨#[115, 117, 109]⟩, ⟨#[126]⟩]
def keyOf (x : Sym) : Int := pick (IntKind.i64.wrap ((x.name.size : Int) + x.place)) 8
def symFor (raw : Img) (n : Nat) (i : Nat) : List Sym := match raw.syms.find? (fun x => keyOf x == i) with
  | none => []
  | some x => [⟨names.getD i ⟨#[]⟩, 4 * pick x.place ((n : Int) + 1)⟩]
def fitWords (raw : Img) (k : Nat) : List Int := (raw.words.take k).map fun x => pick x 4294967296
def fitSyms (raw : Img) (n : Nat) (k : Nat) : List Sym := (List.range k).flatMap (symFor raw n)
def fitLen (raw : Img) : Nat := min raw.words.length 40
def fitV (raw : Img) : Img := ⟨fitWords raw (fitLen raw), pick raw.mem 4097, fitSyms raw (fitLen raw) 8⟩
theorem fitWords_succ {raw : Img} {k : Nat} {x : Int} (h : raw.words[k]? = some x) : fitWords raw (k + 1) = fitWords raw k ++ [pick x 4294967296] := by
  obtain ⟨hk, hx⟩ := List.getElem?_eq_some_iff.1 h
  unfold fitWords
  rw [List.take_succ_eq_append_getElem hk, List.map_append, hx]
  rfl
theorem fitWords_len (raw : Img) : (fitWords raw (fitLen raw)).length = fitLen raw := by
  unfold fitWords fitLen
  rw [List.length_map, List.length_take]
  omega
theorem fitSyms_succ (raw : Img) (n k : Nat) : fitSyms raw n (k + 1) = fitSyms raw n k ++ symFor raw n k := by
  unfold fitSyms
  rw [List.range_succ, List.flatMap_append]
  simp
theorem symFor_len (raw : Img) (n i : Nat) : (symFor raw n i).length ≤ 1 := by
  unfold symFor
  split <;> simp
theorem fitSyms_len (raw : Img) (n : Nat) : ∀ k, (fitSyms raw n k).length ≤ k := by
  intro k
  induction k with
  | zero => exact Nat.le_refl _
  | succ k ih =>
    rw [fitSyms_succ, List.length_append]
    have := symFor_len raw n k
    omega
theorem symFor_mem {raw : Img} {n i : Nat} {x : Sym} (h : x ∈ symFor raw n i) : x.name = names.getD i ⟨#[]⟩ ∧ ∃ y, x.place = 4 * pick y ((n : Int) + 1) := by
  unfold symFor at h
  split at h
  · simp at h
  · obtain rfl := List.mem_singleton.1 h
    exact ⟨rfl, _, rfl⟩
theorem names_lab : ∀ i : Fin 8, isLab (names.getD i.val ⟨#[]⟩) = true := by decide +kernel
theorem names_rise : ∀ i j : Fin 8, i < j → less (names.getD i.val ⟨#[]⟩) (names.getD j.val ⟨#[]⟩) = true := by decide +kernel
theorem fit_names {raw : Img} {n : Nat} : ∀ (k : Nat), k ≤ 8 → ∀ x ∈ fitSyms raw n k, ∃ i, i < k ∧ x.name = names.getD i ⟨#[]⟩ ∧ ∃ y, x.place = 4 * pick y ((n : Int) + 1) := by
  intro k hk x hx
  unfold fitSyms at hx
  obtain ⟨i, hi, hxi⟩ := List.mem_flatMap.1 hx
  exact ⟨i, List.mem_range.1 hi, (symFor_mem hxi).1, (symFor_mem hxi).2⟩
/-- the names of the symbols rise -/
theorem fit_rise (raw : Img) (n : Nat) : ∀ k, k ≤ 8 → ∀ j x y, (fitSyms raw n k)[j]? = some x → (fitSyms raw n k)[j + 1]? = some y → less x.name y.name = true := by
  intro k
  induction k with
  | zero => intro _ j x y h; simp [fitSyms] at h
  | succ k ih =>
    intro hk j x y hx hy
    rw [fitSyms_succ] at hx hy
    have hl := symFor_len raw n k
    by_cases h1 : j + 1 < (fitSyms raw n k).length
    · rw [List.getElem?_append_left h1] at hy
      rw [List.getElem?_append_left (by omega)] at hx
      exact ih (by omega) j x y hx hy
    · rw [List.getElem?_append_right (by omega)] at hy
      have hyl := (List.getElem?_eq_some_iff.1 hy).1
      have hj : j + 1 = (fitSyms raw n k).length := by omega
      rw [List.getElem?_append_left (by omega)] at hx
      obtain ⟨i, hi, hn, _⟩ := fit_names k (by omega) x (List.mem_of_getElem? hx)
      rw [hn, (symFor_mem (List.mem_of_getElem? hy)).1]
      exact names_rise ⟨i, by omega⟩ ⟨k, by omega⟩ hi
theorem pl_ok {y : Int} {n : Nat} : isPl (4 * pick y ((n : Int) + 1)) n = true := by
  have := pick_bd y (show (1 : Int) ≤ (n : Int) + 1 by omega)
  unfold isPl
  rw [decide_eq_true_eq]
  omega
theorem fit_right (raw : Img) : right (fitV raw) = true := by
  have hw := fitWords_len raw
  have h40 : fitLen raw ≤ 40 := by unfold fitLen; omega
  have hs := fitSyms_len raw (fitLen raw) 8
  have hm := pick_bd raw.mem (n := 4097) (by decide)
  refine right_yes (by show (fitWords raw (fitLen raw)).length ≤ _; omega) (by show (fitSyms raw (fitLen raw) 8).length ≤ _; omega) hm.1 (by show pick raw.mem 4097 ≤ 4096; omega) ?_ ?_
  · intro j x hj
    have hx : x ∈ fitWords raw (fitLen raw) := List.mem_of_getElem? hj
    unfold fitWords at hx
    obtain ⟨y, _, rfl⟩ := List.mem_map.1 hx
    have := pick_bd y (n := 4294967296) (by decide)
    unfold isWd
    rw [decide_eq_true_eq]
    omega
  · intro j hj
    obtain ⟨x, hx⟩ : ∃ x, (fitV raw).syms[j]? = some x := ⟨_, List.getElem?_eq_getElem hj⟩
    obtain ⟨i, hi, hn, y, hp⟩ := fit_names 8 (by omega) x (List.mem_of_getElem? hx)
    unfold symOk
    rw [hx]
    have h1 : isLab x.name = true := by rw [hn]; exact names_lab ⟨i, hi⟩
    have h2 : isPl x.place (fitV raw).words.length = true := by
      show isPl x.place ((fitWords raw (fitLen raw)).length : Int) = true
      rw [hw, hp]
      exact pl_ok
    have h3 : prevOk (fitV raw) x.name j = true := by
      cases j with
      | zero => rfl
      | succ j =>
        show (match (fitV raw).syms[j]? with | none => true | some z => less z.name x.name) = true
        obtain ⟨z, hz⟩ : ∃ z, (fitV raw).syms[j]? = some z := ⟨_, List.getElem?_eq_getElem (by omega)⟩
        rw [hz]
        exact fit_rise raw (fitLen raw) 8 (by omega) j z x hz hx
    simp only [h1, h2, h3]
    rfl
theorem fit_bounds (raw : Img) : (∀ x ∈ (fitV raw).words, -9223372036854775808 ≤ x ∧ x ≤ 9223372036854775807) ∧ (∀ x ∈ (fitV raw).syms, x.name.size ≤ maxLen ∧ -9223372036854775808 ≤ x.place ∧ x.place ≤ 9223372036854775807) := by
  obtain ⟨_, _, _, _, h5, _⟩ := right_parts (fit_right raw)
  have hw : (fitV raw).words.length ≤ 40 := by have := fitWords_len raw; have h40 : fitLen raw ≤ 40 := by { unfold fitLen; omega }; show (fitWords raw (fitLen raw)).length ≤ 40; omega
  refine ⟨fun x hx => ?_, fun x hx => ?_⟩
  · have := h5 x hx
    unfold isWd at this
    rw [decide_eq_true_eq] at this
    omega
  · obtain ⟨h1, h2⟩ := right_name (fit_right raw) hx
    have := lab_size h1
    unfold isPl at h2
    rw [decide_eq_true_eq] at h2
    unfold maxLen
    omega
/-- a row of the call's own grows by one element, which lies in a block of its own -/
theorem erow_app {α : Type} {enc : α → List Value} {t T : TypeId} {k bytes : Nat} {i : TypeInfo} {z : Value} (hk : ∀ x, (enc x).length = k) (h1c : ∀ x, ∀ u ∈ enc x, u.oneCell' = true) (hT : Tryz.prog.underlying T = some (.slice t)) (hi : Tryz.prog.info? t = some i) (hz : i.zero = some z) (hs : i.size = k) (hby : i.bytes = bytes) (hzs : z.cells.size = k) (hk0 : 0 < k) (hbs : bytes ≤ 1000)
    {w : World} {base : Nat} {v : Value} {l : List α} (h : ERow enc t k w base v l) (x : α) (B : Nat) (hB : ∀ (j : Nat) (u : Value), (enc x)[j]? = some u → w.cell? ⟨B, j, none⟩ = some u) (hlen : l.length ≤ 1000000) (hbase : base ≤ w.heap.size) :
    ∃ v' w', (Builtin.append_ #[T, T] T #[v, .slice (some ⟨B, 0, none⟩) 1 1]).run Tryz.prog w = .ok v' w' ∧ ERow enc t k w' base v' (l ++ [x]) ∧ Sv (fun g => v.ownBlock = some g) w w' := by
  obtain ⟨v', w', e1, e2, e3, _⟩ := append_sv (P := Tryz.prog) w base T T t i z k bytes hT hi hz hs hby hzs hk0 v l.length (l.flatMap enc) h ⟨B, 0, none⟩ 1 1 (enc x) (by rw [hk, Nat.one_mul])
    (fun j u hj => by rw [Addr.add_lit, Nat.zero_add]; exact hB j u hj) (h1c x) (by unfold maxLen; omega) (Nat.le_trans (Nat.mul_le_mul (show l.length + 1 ≤ 1000001 by omega) hbs) (by decide)) hbase (Or.inl (by omega))
  refine ⟨v', w', e1, ?_, e3⟩
  show w'.ownsRow base t k v' (l ++ [x]).length ((l ++ [x]).flatMap enc)
  rw [List.length_append, List.flatMap_append]
  simpa using e2
theorem info_int : ∃ i : TypeInfo, Tryz.prog.info? 3 = some i ∧ i.zero = some (.int .i64 0) ∧ i.size = 1 ∧ i.bytes = 8 := ⟨(Tryz.prog.info? 3).get (by kernel_rfl), by kernel_rfl, by kernel_rfl, by kernel_rfl, by kernel_rfl⟩
theorem info_sym : ∃ i : TypeInfo, Tryz.prog.info? 42 = some i ∧ i.zero = some (.agg #[.string ⟨#[]⟩, .int .i64 0]) ∧ i.size = 2 ∧ i.bytes = 24 := ⟨(Tryz.prog.info? 42).get (by kernel_rfl), by kernel_rfl, by kernel_rfl, by kernel_rfl, by kernel_rfl⟩
theorem irow_app {w : World} {base : Nat} {v : Value} {l : List Int} (h : ERow icell 3 1 w base v l) (x : Int) (B : Nat) (hB : w.cell? ⟨B, 0, none⟩ = some (.int .i64 x)) (hlen : l.length ≤ 1000000) (hbase : base ≤ w.heap.size) :
    ∃ v' w', (Builtin.append_ #[22, 22] 22 #[v, .slice (some ⟨B, 0, none⟩) 1 1]).run Tryz.prog w = .ok v' w' ∧ ERow icell 3 1 w' base v' (l ++ [x]) ∧ Sv (fun g => v.ownBlock = some g) w w' := by
  obtain ⟨i, hi, hz, hs, hb⟩ := info_int
  exact erow_app (enc := icell) (k := 1) (bytes := 8) (fun _ => rfl) (fun x u hu => by simp [icell] at hu; subst hu; rfl) Tryz.underlying22 hi hz hs hb rfl (by decide) (by decide) h x B (fun j u hj => by
    match j, hj with
    | 0, hj => rw [← hj]; exact hB
    | j + 1, hj => simp [icell] at hj) hlen hbase
theorem srow_app {w : World} {base : Nat} {v : Value} {l : List Sym} (h : ERow scell 42 2 w base v l) (x : Sym) (B : Nat) (hB : w.cell? ⟨B, 0, none⟩ = some (.string x.name)) (hB1 : w.cell? ⟨B, 1, none⟩ = some (.int .i64 x.place)) (hlen : l.length ≤ 1000000) (hbase : base ≤ w.heap.size) :
    ∃ v' w', (Builtin.append_ #[23, 23] 23 #[v, .slice (some ⟨B, 0, none⟩) 1 1]).run Tryz.prog w = .ok v' w' ∧ ERow scell 42 2 w' base v' (l ++ [x]) ∧ Sv (fun g => v.ownBlock = some g) w w' := by
  obtain ⟨i, hi, hz, hs, hb⟩ := info_sym
  exact erow_app (enc := scell) (k := 2) (bytes := 24) (fun _ => rfl) (fun x u hu => by simp [scell] at hu; rcases hu with rfl | rfl <;> rfl) Tryz.underlying23 hi hz hs hb rfl (by decide) (by decide) h x B (fun j u hj => by
    match j, hj with
    | 0, hj => rw [← hj]; exact hB
    | 1, hj => rw [← hj]; exact hB1
    | j + 2, hj => simp [scell] at hj) hlen hbase
end Go.Proofs.YtbfmlbcjggplgaaGreatDoor
