/- What package image reads of eight digits. -/
import Derived.Test.YtbfmlbcjggplgaaGreatDoorIPu
namespace Go.Proofs.YtbfmlbcjggplgaaGreatDoor
open Go.RowKit Im
set_option linter.unusedVariables false
/-- the two errors' variables hold something -/
def ErrsAt (w : World) : Prop := (∃ ev, w.cell? ⟨3, 0, none⟩ = some ev ∧ (ev = .nilIface ∨ ∃ te pe, ev = .iface te pe)) ∧ (∃ ev, w.cell? ⟨4, 0, none⟩ = some ev ∧ (ev = .nilIface ∨ ∃ te pe, ev = .iface te pe)) ∧ 3 < w.heap.size ∧ 4 < w.heap.size
theorem ErrsAt.bel {w w' : World} (h : ErrsAt w) (hb : Bel w w') : ErrsAt w' := by
  obtain ⟨⟨e1, h1, h1'⟩, ⟨e2, h2, h2'⟩, h3, h4⟩ := h
  exact ⟨⟨e1, (hb.cell (p := ⟨3, 0, none⟩) h3).trans h1, h1'⟩, ⟨e2, (hb.cell (p := ⟨4, 0, none⟩) h4).trans h2, h2'⟩, Nat.lt_of_lt_of_le h3 hb.size, Nat.lt_of_lt_of_le h4 hb.size⟩
/-- a number and an error, whichever -/
def NumErr (n : Int) (w : World) (e : Ending) (w' : World) : Prop := ∃ er, e = .returned (.tuple #[.int .u64 n, er]) ∧ Bel w w'
def numEnd : Lib.NumEnd Nat → Int
  | .ok n => n
  | Lib.NumEnd.syntax => 0
  | .range => 4294967295
set_option maxHeartbeats 4000000 in
set_option maxRecDepth 100000 in
theorem parseUint_lit {t : ByteArray} {n : Int} (h : numEnd (if t.data.toList = [] then Lib.NumEnd.syntax else parse16 0 t.data.toList) = n) (hmax : t.size ≤ 281474976710656) (w : World) (hE : ErrsAt w) :
    Calls Tryz.prog 60 #[.string t, .int .i64 16, .int .i64 32] w (NumErr n w) := by
  obtain ⟨r, hr⟩ : ∃ r, (if t.data.toList = [] then Lib.NumEnd.syntax else parse16 0 t.data.toList) = r := ⟨_, rfl⟩
  rw [hr] at h
  have hI := fun W => uint16_end hr (by omega) W
  clear hr
  rcases r with u | _ | _
  · skip
    have hI : ∀ W, Calls Tryz.prog 77 #[.string t, .int .i64 16, .int .i64 32] W fun e w' => e = .returned (.tuple #[.int .u64 u, .nilIface]) ∧ Bel W w' := hI
    have h : (u : Int) = n := h
    subst h
    clear hE
    go_enter Tryz.func60, Tryz.ntmps60
    go_wp2_with (go_at_call 77; ((with_reducible refine (hI _).mono ?_); rintro e w1 ⟨rfl, hb⟩; have HB := Lib.hid hb; clear hb))
    go_ret2
    exact ⟨_, rfl, HB.out⟩
  · skip
    have hI : ∀ W, Calls Tryz.prog 77 #[.string t, .int .i64 16, .int .i64 32] W fun e w' => e = .returned (.tuple #[.int .u64 0, .iface 116 (.int .i64 2)]) ∧ Bel W w' := hI
    have h : (0 : Int) = n := h
    subst h
    have HE := Lib.hid hE
    clear hE
    go_enter Tryz.func60, Tryz.ntmps60
    go_wp2_with (go_at_call 77; ((with_reducible refine (hI _).mono ?_); rintro e w1 ⟨rfl, hb⟩; have HB := Lib.hid hb; clear hb))
    obtain ⟨⟨e1, v1, v1'⟩, _⟩ := HE.out.bel HB.out
    go_at_call 66
    refine (Tryz.strconv_toError_syntax ⟨#[80, 97, 114, 115, 101, 85, 105, 110, 116]⟩ t 16 32 e1 w1 hmax v1 v1').mono ?_
    rintro e w2 ⟨N, rfl, h1, h2, h3⟩
    have HB3 := Lib.hid (Bel.trans HB.out (show Bel w1 w2 from h3))
    clear h1 h2 h3 v1 v1'
    go_wp2
    go_ret2
    exact ⟨_, rfl, HB3.out⟩
  · skip
    have hI : ∀ W, Calls Tryz.prog 77 #[.string t, .int .i64 16, .int .i64 32] W fun e w' => e = .returned (.tuple #[.int .u64 4294967295, .iface 116 (.int .i64 1)]) ∧ Bel W w' := hI
    have h : (4294967295 : Int) = n := h
    subst h
    have HE := Lib.hid hE
    clear hE
    go_enter Tryz.func60, Tryz.ntmps60
    go_wp2_with (go_at_call 77; ((with_reducible refine (hI _).mono ?_); rintro e w1 ⟨rfl, hb⟩; have HB := Lib.hid hb; clear hb))
    obtain ⟨_, ⟨e1, v1, v1'⟩, _⟩ := HE.out.bel HB.out
    go_at_call 66
    refine (Tryz.strconv_toError_range ⟨#[80, 97, 114, 115, 101, 85, 105, 110, 116]⟩ t 16 32 e1 w1 hmax v1 v1').mono ?_
    rintro e w2 ⟨N, rfl, h1, h2, h3⟩
    have HB3 := Lib.hid (Bel.trans HB.out (show Bel w1 w2 from h3))
    clear h1 h2 h3 v1 v1'
    go_wp2
    go_ret2
    exact ⟨_, rfl, HB3.out⟩
theorem numEnd_eq (s : Bs) : numEnd (if s = [] then Lib.NumEnd.syntax else parse16 0 s) = numV s := by
  unfold numV
  by_cases h : s = []
  · rw [if_pos h, if_pos h]; rfl
  · rw [if_neg h, if_neg h]
    cases parse16 0 s <;> rfl
set_option maxHeartbeats 1000000 in
theorem number_lit {t : ByteArray} {n : Int} (h : numV t.data.toList = n) (hmax : t.size ≤ 281474976710656) (w : World) (hE : ErrsAt w) :
    Calls Tryz.prog 44 #[.string t] w fun e w' => e = .returned (.int .i64 n) ∧ Bel w w' := by
  have hb := numV_bounds t.data.toList
  rw [h] at hb
  obtain ⟨b1, b2⟩ := hb
  have hq := parseUint_lit (n := n) (by rw [numEnd_eq, h]) hmax
  have HE := Lib.hid hE
  clear h hE
  go_enter Tryz.func44, Tryz.ntmps44
  go_wp2_with (go_at_call 60; ((with_reducible refine (hq _ HE.out).mono ?_); rintro e w1 ⟨er, rfl, hb⟩; have HB := Lib.hid hb; clear hb))
  go_ret
  exact ⟨rfl, HB.out⟩
end Go.Proofs.YtbfmlbcjggplgaaGreatDoor
