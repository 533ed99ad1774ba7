/- Rows of the call's own: some things more; a queue cloned. -/
import Derived.Test.YtbhpnoodpicdkaaGKind
import Derived.Lib.LazyBuf
namespace Go.Proofs.Ytbhpnoodpicdkaa
open Go.RowKit Dv
set_option linter.unusedVariables false
set_option linter.unusedSimpArgs false
structure RowTy {α : Type} (enc : α → List Value) (k : Nat) (t T : TypeId) (bytes : Nat) : Prop where
  len : ∀ x, (enc x).length = k
  one : ∀ x, ∀ u ∈ enc x, u.oneCell' = true
  und : Try.prog.underlying t = some (.slice T)
  info : ∃ i z, Try.prog.info? T = some i ∧ i.zero = some z ∧ i.size = k ∧ i.bytes = bytes ∧ z.cells.size = k
  pos : 0 < k
  small : bytes ≤ 1000
theorem addr_add (b o n : Nat) : (⟨b, o, none⟩ : Addr).add n = ⟨b, o + n, none⟩ := by simp [Addr.add]
theorem enc_news {α : Type} {enc : α → List Value} {k : Nat} (hk : ∀ x, (enc x).length = k) {w : World} {b o : Nat} {r : List α} (hs : ∀ (j : Nat) (x : α), r[j]? = some x → ∀ (i : Nat) (v : Value), (enc x)[i]? = some v → w.cell? ⟨b, o + j * k + i, none⟩ = some v) : ∀ (n : Nat) (u : Value), (r.flatMap enc)[n]? = some u → w.cell? ((⟨b, o, none⟩ : Addr).add n) = some u := by
  induction r generalizing o with
  | nil => intro n u h; simp at h
  | cons x r ih =>
    intro n u h
    rw [List.flatMap_cons] at h
    by_cases hn : n < k
    · rw [List.getElem?_append_left (by rw [hk]; exact hn)] at h
      have := hs 0 x rfl n u h
      rw [Nat.zero_mul, Nat.add_zero] at this
      rw [addr_add]
      exact this
    · rw [List.getElem?_append_right (by rw [hk]; omega), hk] at h
      have := ih (o := o + k) (fun j y hj i v hv => by
        have := hs (j + 1) y (by simpa using hj) i v hv
        rw [Nat.succ_mul] at this
        rw [show o + k + j * k + i = o + (j * k + k) + i by omega]
        exact this) (n - k) u h
      rw [addr_add] at this ⊢
      rw [show o + k + (n - k) = o + n by omega] at this
      exact this
theorem flat_one {α : Type} {enc : α → List Value} (h1 : ∀ x, ∀ u ∈ enc x, u.oneCell' = true) (r : List α) : ∀ u ∈ r.flatMap enc, u.oneCell' = true := by
  intro u hu
  obtain ⟨x, _, hx⟩ := List.mem_flatMap.1 hu
  exact h1 x u hx
/-- some things more -/
theorem app_more {α : Type} {enc : α → List Value} {k : Nat} {t T : TypeId} {bytes : Nat} (H : RowTy enc k t T bytes) {w : World} {base : Nat} {v : Value} {l : List α} (h : ERow enc T k w base v l) {b o m c : Nat} {r : List α} (hr : r.length = m) (hs : ∀ (j : Nat) (x : α), r[j]? = some x → ∀ (i : Nat) (v : Value), (enc x)[i]? = some v → w.cell? ⟨b, o + j * k + i, none⟩ = some v) (hv : 0 < m ∨ v ≠ .slice none 0 0) (hL : l.length + m ≤ 100000) (hb : base ≤ w.heap.size) :
    ∃ v' w', (Builtin.append_ #[t, t] t #[v, .slice (some ⟨b, o, none⟩) m c]).run Try.prog w = .ok v' w' ∧ ERow enc T k w' base v' (l ++ r) ∧ Sv (fun b => v.ownBlock = some b) w w' ∧ v' ≠ .slice none 0 0 := by
  obtain ⟨i, z, hi, hz, hsz, hby, hzs⟩ := H.info
  have hlt : (l.length + m) * bytes ≤ 100000 * 1000 := Nat.mul_le_mul hL H.small
  obtain ⟨v', w', hrun, hown, hsv, hn⟩ := append_sv (P := Try.prog) w base t t T i z k bytes H.und hi hz hsz hby hzs H.pos v l.length (l.flatMap enc) h ⟨b, o, none⟩ m c (r.flatMap enc) (by rw [flat_len H.len, hr]) (enc_news H.len hs) (flat_one H.one r) (by unfold maxLen; omega) (by omega) hb hv
  refine ⟨v', w', hrun, ?_, hsv, hn⟩
  show w'.ownsRow base T k v' (l ++ r).length ((l ++ r).flatMap enc)
  rw [List.length_append, List.flatMap_append, hr]
  exact hown
theorem intTy : RowTy encI 1 25 3 8 :=
  ⟨fun _ => rfl, fun x u hu => by rw [List.mem_singleton.1 hu]; rfl, Try.underlying25, ⟨(Try.prog.info? 3).get (by kernel_rfl), .int .i64 0, by kernel_rfl, by kernel_rfl, by kernel_rfl, by kernel_rfl, by kernel_rfl⟩, by decide, by decide⟩
set_option maxRecDepth 100000 in
theorem clone_any {w : World} {v : Value} {q : List Int} (h : QAt w v q) (hl : q.length ≤ 16) :
    Calls Try.prog 24 #[v] w fun e w' => ∃ p n c, e = .returned (.slice p n c) ∧ ERow encI 3 1 w' w.heap.size (.slice p n c) q ∧ Bel w w' := by
  rcases h with ⟨rfl, rfl⟩ | ⟨b, o, c, rfl, hc, ⟨qs, qf, hqb⟩, hx⟩
  · have he : ∀ w, (binOp .eql 25 (.slice none 0 0) (.slice none 0 0)).run Try.prog w = .ok (.bool true) w := fun w => Go.run_eql_slice_nil w _ _ _ _ _ Try.underlying25
    go_enter Try.func24, Try.ntmps24
    go_wp2
    go_ret
    exact ⟨none, 0, 0, rfl, ERow.nil _ _ _ _ _, Bel.refl _⟩
  · have hb := lt_of_heap hqb
    clear hqb
    have HX := Lib.hid hx
    have HC := Lib.hid hc
    have HL := Lib.hid hl
    clear hx hc hl
    have he : ∀ w, (binOp .eql 25 (.slice (some ⟨b, o, none⟩) q.length c) (.slice none 0 0)).run Try.prog w = .ok (.bool false) w := fun w => Go.run_eql_slice_nil w _ _ _ _ _ Try.underlying25
    go_enter Try.func24, Try.ntmps24
    have hrow : ERow encI 3 1 (w.alloc (.cells #[] 3)) w.heap.size (.slice (some ⟨w.heap.size, 0, none⟩) 0 0) [] := ⟨rfl, .inr ⟨w.heap.size, 0, #[], rfl, Nat.le_refl _, heap_alloc_new w _, Nat.le_refl _, by decide, rfl, rfl⟩⟩
    obtain ⟨v', w', hrun, hown, hsv, hv⟩ := app_more (w := w.alloc (.cells #[] 3)) intTy hrow (b := b) (o := o) (c := c) (r := q) rfl (fun j x hj i u hu => by
      cases i with
      | zero =>
        have hu' : Value.int .i64 x = u := by simpa using hu
        rw [← hu', Nat.mul_one, Nat.add_zero]
        exact (((Bel.refl w).alloc _ _).cell (p := ⟨b, o + j, none⟩) hb).trans (HX.out j x hj)
      | succ i => simp at hu) (.inr (by intro c; cases c)) (by show 0 + q.length ≤ 100000; have := HL.out; omega) (by rw [World.size_alloc]; omega)
    obtain ⟨p', c', rfl, _⟩ := ERow.form (enc := encI) (k := 1) (fun _ => rfl) hown
    have HRUN := Lib.hid hrun
    have HOWN := Lib.hid hown
    have hbel : Bel w w' := Sv.bel hsv ((Bel.refl w).alloc _ _) (fun k hk => by cases hk; exact Nat.le_refl _)
    have HB := Lib.hid hbel
    clear hrun hown hsv hv hrow hbel
    go_wp2_with (at_builtin; refine wpList_app rfl (.tmp 5) (.tmp 6) 25 rfl _ _ _ (by rfl) (by rfl) HRUN.out ?_)
    go_ret
    exact ⟨_, _, _, rfl, HOWN.out, HB.out⟩
end Go.Proofs.Ytbhpnoodpicdkaa
