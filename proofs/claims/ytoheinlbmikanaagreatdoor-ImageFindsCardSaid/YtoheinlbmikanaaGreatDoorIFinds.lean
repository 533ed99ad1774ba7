/- Each symbol is found at its place: the law ImageFinds, walked. -/
import Derived.Test.YtoheinlbmikanaaGreatDoorIFit
import Derived.Test.YtoheinlbmikanaaGreatDoorIAwk2
import Derived.Test.YtoheinlbmikanaaGreatDoorIFind
namespace Go.Proofs.YtoheinlbmikanaaGreatDoor
open Go.RowKit Im
set_option linter.unusedVariables false
theorem fit_not (raw : Img) (s : ByteArray) (h : ∀ i : Fin 8, names.getD i.val ⟨#[]⟩ ≠ s) : ∀ x ∈ (fitV raw).syms, x.name ≠ s := by
  intro x hx
  obtain ⟨i, hi, hn, _⟩ := fit_names 8 (by omega) x hx
  rw [hn]
  exact h ⟨i, hi⟩
def S6 (b4 b o k : Nat) (p : Option Addr) (c d : Nat) (m : Img) (nm : ByteArray) (pl : Int) (W : World) : Prop := W.cell? ⟨b4, 0, none⟩ = some (.slice p m.words.length c) ∧ W.cell? ⟨b4, 1, none⟩ = some (.int .i64 m.mem) ∧ W.cell? ⟨b4, 2, none⟩ = some (.slice (some ⟨b, o, none⟩) m.syms.length d) ∧ W.cell? ⟨b, o + k * 2, none⟩ = some (.string nm) ∧ W.cell? ⟨b, o + k * 2 + 1, none⟩ = some (.int .i64 pl)
set_option maxRecDepth 100000 in
set_option maxHeartbeats 8000000 in
theorem imageFinds_any {wp sp : Option Addr} {wc sc : Nat} {raw : Img} (w : World) (H : Hid (ImgAt w wp sp raw)) (hL : LibAt w) :
    Calls Tryz.prog 7 #[imgV wp sp wc sc raw] w fun e w' => e = .returned (.bool true) ∧ Bel w w' := by
  have HL := Lib.hid hL
  clear hL
  go_enter Tryz.func7, Tryz.ntmps7
  go_wp2_with fail
  have hb0 := (Bel.refl w).alloc (boxV wp sp wc sc raw) 25
  have hx0 := heap_alloc_new w (.cells (boxV wp sp wc sc raw) 25)
  generalize w.alloc (.cells (boxV wp sp wc sc raw) 25) = W0 at hb0 hx0 ⊢
  generalize w.heap.size = bx at hx0 ⊢
  have HB := Lib.hid hb0
  have HX0 := Lib.hid hx0
  clear hb0 hx0
  refine (awake_any _ (HL.out.bel HB.out)).mono ?_
  rintro e w1 ⟨rfl, hb⟩
  have HB := Lib.hid (HB.out.trans hb)
  have HX0 := Lib.hid (hb.stays HX0.out)
  clear hb
  have c0 : w1.cell? ⟨bx, 0, none⟩ = some (.slice wp raw.words.length wc) := cell_of_heap HX0.out 0
  have c1 : w1.cell? ⟨bx, 1, none⟩ = some (.int .i64 raw.mem) := cell_of_heap HX0.out 1
  have c2 : w1.cell? ⟨bx, 2, none⟩ = some (.slice sp raw.syms.length sc) := cell_of_heap HX0.out 2
  go_wp2_with fail
  refine (fit_any (wp := wp) (sp := sp) (wc := wc) (sc := sc) _ (Lib.hid (H.out.bel HB.out))).mono ?_
  rintro e w2 ⟨hb, p, q, c, d, rfl, hI⟩
  have HB := Lib.hid (HB.out.trans hb)
  clear hb c0 c1 c2
  have hn1 := fit_not raw ⟨#[115, 116, 114, 97, 110, 103, 101]⟩ (by decide +kernel)
  have hn2 := fit_not raw ⟨#[]⟩ (by decide +kernel)
  have hr := fit_right raw
  generalize fitV raw = m at hI hn1 hn2 hr ⊢
  have HI := Lib.hid hI
  have HN1 := Lib.hid hn1
  have HN2 := Lib.hid hn2
  have HR := Lib.hid hr
  clear hI hn1 hn2 hr
  go_wp2_with fail
  have hb3 := (Bel.refl w2).alloc (boxV p q c d m) 25
  have hx3 := heap_alloc_new w2 (.cells (boxV p q c d m) 25)
  generalize w2.alloc (.cells (boxV p q c d m) 25) = W3 at hb3 hx3 ⊢
  generalize w2.heap.size = b4 at hx3 ⊢
  have HI := Lib.hid (HI.out.bel hb3)
  have HB := Lib.hid (HB.out.trans hb3)
  have HX4 := Lib.hid hx3
  clear hb3 hx3
  go_loopw [5] (fun i wr => ∃ k : Nat, k ≤ m.syms.length ∧ i = .int .i64 k ∧ Hid (Bel w wr ∧ wr.heap[b4]? = some (.cells (boxV p q c d m) 25 (0, 0)) ∧ ImgAt wr p q m)) (fun i _ => m.syms.length - (intOf i).toNat)
  case atStart => exact ⟨0, Nat.zero_le _, rfl, HB.out, HX4.out, HI.out⟩
  case round =>
    obtain ⟨k, hk, rfl, HA⟩ := hrel
    have hml : m.syms.length ≤ 1000 := (right_parts HR.out).2.1
    by_cases hkl : k < m.syms.length
    · obtain ⟨⟨nm, pl⟩, hx⟩ : ∃ x, m.syms[k]? = some x := ⟨_, List.getElem?_eq_getElem hkl⟩
      obtain ⟨b, o, hsp, hbl, e1, e2⟩ := SymsQ.get HA.out.2.2.syms hx
      have hkl' : (k : Int) < (m.syms.length : Int) := by omega
      have hk0 : (0 : Int) ≤ (k : Int) := by omega
      have HX := Lib.hid hx
      have HLT : Hid (k + 1 ≤ m.syms.length) := Lib.hid hkl
      have HS : Hid (∀ W, Bel wr W → S6 b4 b o k p c d m nm pl W) := Lib.hid (fun W hb => by
        obtain ⟨b', o', hsp', _, f1, f2⟩ := SymsQ.get (HA.out.2.2.bel hb).syms hx
        obtain ⟨rfl, rfl⟩ : b = b' ∧ o = o' := by rw [hsp] at hsp'; simpa using hsp'
        have hg := hb.stays HA.out.2.1
        refine ⟨cell_of_heap hg 0, cell_of_heap hg 1, ?_, f1, f2⟩
        rw [← hsp]
        exact cell_of_heap hg 2)
      have q2 : wr.cell? ⟨b4, 2, none⟩ = some (.slice (some ⟨b, o, none⟩) m.syms.length d) := (HS.out wr (Bel.refl _)).2.2.1
      subst hsp
      clear hx hbl e1 e2 hkl hk
      go_wp2_with fail
      clear q2
      clear HB HI
      refine wp_region_held_drew (S := S6 b4 b o k p c d m nm pl) (by kernel_rfl) (HS.out _ (Bel.refl _).drew) (fun hS => ?_)
      refine takeD 16 (i := 0) (v := ?v1) rfl rfl (by kernel_rfl) (by kernel_rfl) (by kernel_rfl) (fun _ _ _ h => h) (by kernel_rfl) ?hy1 hS ?rest1
      case hy1 => (intro w0 hSw; obtain ⟨s0, s1, s2, s3, s4⟩ := hSw; first | (go_simp; done) | (go_simp; with_reducible rfl))
      simp only [List.setIfInBounds_toArray, List.set_cons_zero, List.set_cons_succ]
      refine takeD 17 (i := 1) (v := ?v2) rfl rfl (by kernel_rfl) (by kernel_rfl) (by kernel_rfl) (fun _ _ _ h => h) (by kernel_rfl) ?hy2 hS ?rest2
      case hy2 => (intro w0 hSw; obtain ⟨s0, s1, s2, s3, s4⟩ := hSw; first | (go_simp; done) | (go_simp; with_reducible rfl))
      simp only [List.setIfInBounds_toArray, List.set_cons_zero, List.set_cons_succ]
      refine takeD 18 (i := 2) (v := ?v3) rfl rfl (by kernel_rfl) (by kernel_rfl) (by kernel_rfl) (fun _ _ _ h => h) (by kernel_rfl) ?hy3 hS ?rest3
      case hy3 => (intro w0 hSw; obtain ⟨s0, s1, s2, s3, s4⟩ := hSw; first | (go_simp; done) | (go_simp; with_reducible rfl))
      simp only [List.setIfInBounds_toArray, List.set_cons_zero, List.set_cons_succ]
      refine takeD 19 (i := 3) (v := ?v4) rfl rfl (by kernel_rfl) (by kernel_rfl) (by kernel_rfl) (fun _ _ _ h => h) (by kernel_rfl) ?hy4 hS ?rest4
      case hy4 => (intro w0 hSw; obtain ⟨s0, s1, s2, s3, s4⟩ := hSw; first | (go_simp; done) | (go_simp; with_reducible rfl))
      simp only [List.setIfInBounds_toArray, List.set_cons_zero, List.set_cons_succ]
      refine takeD 20 (i := 4) (v := ?v5) rfl rfl (by kernel_rfl) (by kernel_rfl) (by kernel_rfl) (fun _ _ _ h => h) (by kernel_rfl) ?hy5 hS ?rest5
      case hy5 => (intro w0 hSw; obtain ⟨s0, s1, s2, s3, s4⟩ := hSw; first | (go_simp; done) | (go_simp; with_reducible rfl))
      simp only [List.setIfInBounds_toArray, List.set_cons_zero, List.set_cons_succ]
      refine takeD 21 (i := 5) (v := ?v6) rfl rfl (by kernel_rfl) (by kernel_rfl) (by kernel_rfl) (fun _ _ _ h => h) (by kernel_rfl) ?hy6 hS ?rest6
      case hy6 => (intro w0 hSw; obtain ⟨s0, s1, s2, s3, s4⟩ := hSw; first | (go_simp; done) | (go_simp; with_reducible rfl))
      simp only [List.setIfInBounds_toArray, List.set_cons_zero, List.set_cons_succ]
      refine takeD 22 (i := 6) (v := ?v7) rfl rfl (by kernel_rfl) (by kernel_rfl) (by kernel_rfl) (fun _ _ _ h => h) (by kernel_rfl) ?hy7 hS ?rest7
      case hy7 => (intro w0 hSw; obtain ⟨s0, s1, s2, s3, s4⟩ := hSw; first | (go_simp; done) | (go_simp; with_reducible rfl))
      simp only [List.setIfInBounds_toArray, List.set_cons_zero, List.set_cons_succ]
      refine takeD 24 (i := 8) (v := ?v8) rfl rfl (by kernel_rfl) (by kernel_rfl) (by kernel_rfl) (fun _ _ _ h => h) (by kernel_rfl) ?hy8 hS ?rest8
      case hy8 => (intro w0 hSw; obtain ⟨s0, s1, s2, s3, s4⟩ := hSw; first | (go_simp; done) | (go_simp; with_reducible rfl))
      simp only [List.setIfInBounds_toArray, List.set_cons_zero, List.set_cons_succ]
      refine takeD 25 (i := 9) (v := ?v9) rfl rfl (by kernel_rfl) (by kernel_rfl) (by kernel_rfl) (fun _ _ _ h => h) (by kernel_rfl) ?hy9 hS ?rest9
      case hy9 => (intro w0 hSw; obtain ⟨s0, s1, s2, s3, s4⟩ := hSw; first | (go_simp; done) | (go_simp; with_reducible rfl))
      simp only [List.setIfInBounds_toArray, List.set_cons_zero, List.set_cons_succ]
      refine takeD 26 (i := 10) (v := ?v10) rfl rfl (by kernel_rfl) (by kernel_rfl) (by kernel_rfl) (fun _ _ _ h => h) (by kernel_rfl) ?hy10 hS ?rest10
      case hy10 => (intro w0 hSw; obtain ⟨s0, s1, s2, s3, s4⟩ := hSw; first | (go_simp; done) | (go_simp; with_reducible rfl))
      simp only [List.setIfInBounds_toArray, List.set_cons_zero, List.set_cons_succ]
      refine takeD 27 (i := 11) (v := ?v11) rfl rfl (by kernel_rfl) (by kernel_rfl) (by kernel_rfl) (fun _ _ _ h => h) (by kernel_rfl) ?hy11 hS ?rest11
      case hy11 => (intro w0 hSw; obtain ⟨s0, s1, s2, s3, s4⟩ := hSw; first | (go_simp; done) | (go_simp; with_reducible rfl))
      simp only [List.setIfInBounds_toArray, List.set_cons_zero, List.set_cons_succ]
      refine takeD 28 (i := 12) (v := ?v12) rfl rfl (by kernel_rfl) (by kernel_rfl) (by kernel_rfl) (fun _ _ _ h => h) (by kernel_rfl) ?hy12 hS ?rest12
      case hy12 => (intro w0 hSw; obtain ⟨s0, s1, s2, s3, s4⟩ := hSw; first | (go_simp; done) | (go_simp; with_reducible rfl))
      simp only [List.setIfInBounds_toArray, List.set_cons_zero, List.set_cons_succ]
      refine takeD 29 (i := 13) (v := ?v13) rfl rfl (by kernel_rfl) (by kernel_rfl) (by kernel_rfl) (fun _ _ _ h => h) (by kernel_rfl) ?hy13 hS ?rest13
      case hy13 => (intro w0 hSw; obtain ⟨s0, s1, s2, s3, s4⟩ := hSw; first | (go_simp; done) | (go_simp; with_reducible rfl))
      simp only [List.setIfInBounds_toArray, List.set_cons_zero, List.set_cons_succ]
      refine onlyE 23 (i := 7) rfl rfl (by kernel_rfl) (by kernel_rfl) (fun K hK => ?_)
      simp only [List.setIfInBounds_toArray, List.set_cons_zero, List.set_cons_succ] at hK
      go_simp
      go_at_call 18
      with_reducible refine (find_yes HR.out HX.out _ (Lib.hid (HA.out.2.2.bel (Bel.refl _).drew))).mono ?_
      rintro e wy ⟨rfl, hby⟩
      have HY := Lib.hid ((Bel.drew (Bel.refl wr)).trans hby)
      have hS2 := HS.out wy HY.out
      refine hK _ _ hS2 (fun _ => ?_)
      clear hK K hby
      refine takeD 30 (i := 14) (v := ?v14) rfl rfl (by kernel_rfl) (by kernel_rfl) (by kernel_rfl) (fun _ _ _ h => h) (by kernel_rfl) ?hy14 hS2 ?rest14
      case hy14 => (intro w0 hSw; obtain ⟨s0, s1, s2, s3, s4⟩ := hSw; first | (go_simp; done) | (go_simp; with_reducible rfl))
      simp only [List.setIfInBounds_toArray, List.set_cons_zero, List.set_cons_succ]
      refine wpAnyH_done (by kernel_rfl) ?_ _
      have v1 : (pl != pl) = false := by simp
      have HB2 := Lib.hid (HA.out.1.trans HY.out)
      have HG2 := Lib.hid (HY.out.stays HA.out.2.1)
      have HI2 := Lib.hid (HA.out.2.2.bel HY.out)
      go_wp2_with fail
      go_roundw
      case rel => exact ⟨k + 1, HLT.out, by go_num, HB2.out, HG2.out, HI2.out⟩
      case measure => simp [intOf]; have := HLT.out; omega
    · obtain rfl : k = m.syms.length := by omega
      have q2 : wr.cell? ⟨b4, 2, none⟩ = some (.slice q m.syms.length d) := cell_of_heap HA.out.2.1 2
      clear hk hkl HB HI HX4
      have q0 : wr.cell? ⟨b4, 0, none⟩ = some (.slice p m.words.length c) := cell_of_heap HA.out.2.1 0
      have q1 : wr.cell? ⟨b4, 1, none⟩ = some (.int .i64 m.mem) := cell_of_heap HA.out.2.1 1
      go_wp2_with fail
      refine (right_lit (wp := p) (sp := q) (wc := c) (sc := d) HR.out _ (Lib.hid HA.out.2.2)).mono ?_
      rintro e w5 ⟨rfl, hb⟩
      have HA : Hid (Bel w w5 ∧ w5.heap[b4]? = some (.cells (boxV p q c d m) 25 (0, 0)) ∧ ImgAt w5 p q m) := Lib.hid ⟨HA.out.1.trans hb, hb.stays HA.out.2.1, HA.out.2.2.bel hb⟩
      clear hb q0 q1 q2
      have q0 : w5.cell? ⟨b4, 0, none⟩ = some (.slice p m.words.length c) := cell_of_heap HA.out.2.1 0
      have q1 : w5.cell? ⟨b4, 1, none⟩ = some (.int .i64 m.mem) := cell_of_heap HA.out.2.1 1
      have q2 : w5.cell? ⟨b4, 2, none⟩ = some (.slice q m.syms.length d) := cell_of_heap HA.out.2.1 2
      go_wp2_with fail
      refine (find_none (wp := p) (sp := q) (wc := c) (sc := d) HR.out HN1.out _ (Lib.hid HA.out.2.2)).mono ?_
      rintro e w6 ⟨rfl, hb⟩
      have HA : Hid (Bel w w6 ∧ w6.heap[b4]? = some (.cells (boxV p q c d m) 25 (0, 0)) ∧ ImgAt w6 p q m) := Lib.hid ⟨HA.out.1.trans hb, hb.stays HA.out.2.1, HA.out.2.2.bel hb⟩
      clear hb q0 q1 q2
      have q0 : w6.cell? ⟨b4, 0, none⟩ = some (.slice p m.words.length c) := cell_of_heap HA.out.2.1 0
      have q1 : w6.cell? ⟨b4, 1, none⟩ = some (.int .i64 m.mem) := cell_of_heap HA.out.2.1 1
      have q2 : w6.cell? ⟨b4, 2, none⟩ = some (.slice q m.syms.length d) := cell_of_heap HA.out.2.1 2
      go_wp2_with fail
      refine (find_none (wp := p) (sp := q) (wc := c) (sc := d) HR.out HN2.out _ (Lib.hid HA.out.2.2)).mono ?_
      rintro e w7 ⟨rfl, hb⟩
      have HB := Lib.hid (HA.out.1.trans hb)
      clear hb q0 q1 q2
      go_wp2_with fail
      go_ret
      exact ⟨rfl, HB.out⟩
end Go.Proofs.YtoheinlbmikanaaGreatDoor
