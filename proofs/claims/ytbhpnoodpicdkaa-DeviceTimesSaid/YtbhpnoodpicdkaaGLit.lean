/- What device's functions leave, the states' cells written out. -/
import Derived.Test.YtbhpnoodpicdkaaGRead
import Derived.Test.YtbhpnoodpicdkaaGWrite
import Derived.Test.YtbhpnoodpicdkaaGSame
namespace Go.Proofs.Ytbhpnoodpicdkaa
open Go.RowKit Dv
set_option linter.unusedVariables false
set_option linter.unusedSimpArgs false
def ReadLit (r : Int) (d' : Dev) (w : World) (e : Ending) (w' : World) : Prop := ∃ p' n' c', e = .returned (.tuple #[.int .i64 r, .agg #[.int .i64 (d'.kind : Int), .int .i64 d'.r0, .int .i64 d'.r1, .int .i64 d'.r2, .int .i64 d'.r3, .slice p' n' c', .int .i64 d'.sent, .bool d'.up]]) ∧ Bel w w' ∧ QAt w' (.slice p' n' c') d'.q
def OneLit (d' : Dev) (w : World) (e : Ending) (w' : World) : Prop := ∃ p' n' c', e = .returned (.agg #[.int .i64 (d'.kind : Int), .int .i64 d'.r0, .int .i64 d'.r1, .int .i64 d'.r2, .int .i64 d'.r3, .slice p' n' c', .int .i64 d'.sent, .bool d'.up]) ∧ Bel w w' ∧ QAt w' (.slice p' n' c') d'.q
theorem ReadPost.lit {r : Int} {d' : Dev} {w w' : World} {e : Ending} (h : ReadPost r d' w e w') : ReadLit r d' w e w' := by
  obtain ⟨v, he, hb, u, hv, hq⟩ := h
  obtain ⟨p, n, c, hu⟩ := qat_slice hq
  subst hu
  subst hv
  exact ⟨p, n, c, he, hb, hq⟩
theorem OnePost.lit {d' : Dev} {w w' : World} {e : Ending} (h : OnePost d' w e w') : OneLit d' w e w' := by
  obtain ⟨v, he, hb, u, hv, hq⟩ := h
  obtain ⟨p, n, c, hu⟩ := qat_slice hq
  subst hu
  subst hv
  exact ⟨p, n, c, he, hb, hq⟩
theorem st_of {w : World} {d : Dev} {p : Option Addr} {n c : Nat} (h : QAt w (.slice p n c) d.q) : StAt w (.agg #[.int .i64 (d.kind : Int), .int .i64 d.r0, .int .i64 d.r1, .int .i64 d.r2, .int .i64 d.r3, .slice p n c, .int .i64 d.sent, .bool d.up]) d := ⟨_, rfl, h⟩
theorem read_lit {w : World} {d d' : Dev} {r : Int} {p : Option Addr} {n c k : Nat} (hq : QAt w (.slice p n c) d.q) (hd : Ok d) (hk : k < 4) (hr : rdV d k = (r, d')) :
    Calls Try.prog 14 #[.agg #[.int .i64 (d.kind : Int), .int .i64 d.r0, .int .i64 d.r1, .int .i64 d.r2, .int .i64 d.r3, .slice p n c, .int .i64 d.sent, .bool d.up], .int .i64 (k : Int)] w (ReadLit r d' w) := by
  have h := (read_any (st_of hq) hd hk).mono fun _ _ h => h.lit
  rw [hr] at h
  exact h
theorem write_lit {w : World} {d d' : Dev} {x : Int} {p : Option Addr} {n c k : Nat} (hq : QAt w (.slice p n c) d.q) (hd : Ok d) (hk : k < 4) (hr : wrV d k x = d') :
    Calls Try.prog 13 #[.agg #[.int .i64 (d.kind : Int), .int .i64 d.r0, .int .i64 d.r1, .int .i64 d.r2, .int .i64 d.r3, .slice p n c, .int .i64 d.sent, .bool d.up], .int .i64 (k : Int), .int .i64 x] w (OneLit d' w) := by
  have h := (write_any (st_of hq) hd hk x).mono fun _ _ h => h.lit
  rw [hr] at h
  exact h
theorem input_lit {w : World} {d d' : Dev} {x : Int} {p : Option Addr} {n c : Nat} (hq : QAt w (.slice p n c) d.q) (hd : Ok d) (hr : inV d x = d') :
    Calls Try.prog 18 #[.agg #[.int .i64 (d.kind : Int), .int .i64 d.r0, .int .i64 d.r1, .int .i64 d.r2, .int .i64 d.r3, .slice p n c, .int .i64 d.sent, .bool d.up], .int .i64 x] w (OneLit d' w) := by
  have h := (input_any (st_of hq) hd x).mono fun _ _ h => h.lit
  rw [hr] at h
  exact h
theorem new_lit {d : Dev} {k : Nat} (w : World) (h : 1 ≤ k ∧ k ≤ 3) (hr : newD k = d) : Calls Try.prog 17 #[.int .i64 (k : Int)] w (OneLit d w) := by
  have h := (new_any w h).mono fun _ _ h => h.lit
  rw [hr] at h
  exact h
theorem new4_lit {d : Dev} (w : World) (hr : newD 0 = d) : Calls Try.prog 17 #[.int .i64 4] w (OneLit d w) := by
  have h := (new4 w).mono fun _ _ h => h.lit
  rw [hr] at h
  exact h
theorem raises_lit {w : World} {d : Dev} {p : Option Addr} {n c : Nat} {b : Bool} (hq : QAt w (.slice p n c) d.q) (hb : d.up = b) :
    Calls Try.prog 19 #[.agg #[.int .i64 (d.kind : Int), .int .i64 d.r0, .int .i64 d.r1, .int .i64 d.r2, .int .i64 d.r3, .slice p n c, .int .i64 d.sent, .bool d.up]] w fun e w' => e = .returned (.bool b) ∧ Bel w w' := by
  subst hb
  exact raises_any (st_of hq)
theorem samel {w : World} {d d' : Dev} {p p' : Option Addr} {n c n' c' : Nat} {r : Bool} (hr : sameV d d' = r) (hq : QAt w (.slice p n c) d.q) (hq' : QAt w (.slice p' n' c') d'.q) (hd : Ok d) :
    Calls Try.prog 16 #[.agg #[.int .i64 (d.kind : Int), .int .i64 d.r0, .int .i64 d.r1, .int .i64 d.r2, .int .i64 d.r3, .slice p n c, .int .i64 d.sent, .bool d.up], .agg #[.int .i64 (d'.kind : Int), .int .i64 d'.r0, .int .i64 d'.r1, .int .i64 d'.r2, .int .i64 d'.r3, .slice p' n' c', .int .i64 d'.sent, .bool d'.up]] w fun e w' => e = .returned (.bool r) ∧ Bel w w' := same_lit hr (st_of hq) (st_of hq') hd.len
theorem read_lit0 {w : World} {d d' : Dev} {r : Int} {p : Option Addr} {n c : Nat} (hq : QAt w (.slice p n c) d.q) (hd : Ok d) (hr : rdV d 0 = (r, d')) :
    Calls Try.prog 14 #[.agg #[.int .i64 (d.kind : Int), .int .i64 d.r0, .int .i64 d.r1, .int .i64 d.r2, .int .i64 d.r3, .slice p n c, .int .i64 d.sent, .bool d.up], .int .i64 0] w (ReadLit r d' w) := read_lit hq hd (k := 0) (by omega) hr
theorem write_lit0 {w : World} {d d' : Dev} {x : Int} {p : Option Addr} {n c : Nat} (hq : QAt w (.slice p n c) d.q) (hd : Ok d) (hr : wrV d 0 x = d') :
    Calls Try.prog 13 #[.agg #[.int .i64 (d.kind : Int), .int .i64 d.r0, .int .i64 d.r1, .int .i64 d.r2, .int .i64 d.r3, .slice p n c, .int .i64 d.sent, .bool d.up], .int .i64 0, .int .i64 x] w (OneLit d' w) := write_lit hq hd (k := 0) (by omega) hr
theorem read_lit1 {w : World} {d d' : Dev} {r : Int} {p : Option Addr} {n c : Nat} (hq : QAt w (.slice p n c) d.q) (hd : Ok d) (hr : rdV d 1 = (r, d')) :
    Calls Try.prog 14 #[.agg #[.int .i64 (d.kind : Int), .int .i64 d.r0, .int .i64 d.r1, .int .i64 d.r2, .int .i64 d.r3, .slice p n c, .int .i64 d.sent, .bool d.up], .int .i64 1] w (ReadLit r d' w) := read_lit hq hd (k := 1) (by omega) hr
theorem write_lit1 {w : World} {d d' : Dev} {x : Int} {p : Option Addr} {n c : Nat} (hq : QAt w (.slice p n c) d.q) (hd : Ok d) (hr : wrV d 1 x = d') :
    Calls Try.prog 13 #[.agg #[.int .i64 (d.kind : Int), .int .i64 d.r0, .int .i64 d.r1, .int .i64 d.r2, .int .i64 d.r3, .slice p n c, .int .i64 d.sent, .bool d.up], .int .i64 1, .int .i64 x] w (OneLit d' w) := write_lit hq hd (k := 1) (by omega) hr
theorem new_lit1 {d : Dev} (w : World) (hr : newD 1 = d) : Calls Try.prog 17 #[.int .i64 1] w (OneLit d w) := new_lit w (k := 1) (by omega) hr
theorem read_lit2 {w : World} {d d' : Dev} {r : Int} {p : Option Addr} {n c : Nat} (hq : QAt w (.slice p n c) d.q) (hd : Ok d) (hr : rdV d 2 = (r, d')) :
    Calls Try.prog 14 #[.agg #[.int .i64 (d.kind : Int), .int .i64 d.r0, .int .i64 d.r1, .int .i64 d.r2, .int .i64 d.r3, .slice p n c, .int .i64 d.sent, .bool d.up], .int .i64 2] w (ReadLit r d' w) := read_lit hq hd (k := 2) (by omega) hr
theorem write_lit2 {w : World} {d d' : Dev} {x : Int} {p : Option Addr} {n c : Nat} (hq : QAt w (.slice p n c) d.q) (hd : Ok d) (hr : wrV d 2 x = d') :
    Calls Try.prog 13 #[.agg #[.int .i64 (d.kind : Int), .int .i64 d.r0, .int .i64 d.r1, .int .i64 d.r2, .int .i64 d.r3, .slice p n c, .int .i64 d.sent, .bool d.up], .int .i64 2, .int .i64 x] w (OneLit d' w) := write_lit hq hd (k := 2) (by omega) hr
theorem new_lit2 {d : Dev} (w : World) (hr : newD 2 = d) : Calls Try.prog 17 #[.int .i64 2] w (OneLit d w) := new_lit w (k := 2) (by omega) hr
theorem read_lit3 {w : World} {d d' : Dev} {r : Int} {p : Option Addr} {n c : Nat} (hq : QAt w (.slice p n c) d.q) (hd : Ok d) (hr : rdV d 3 = (r, d')) :
    Calls Try.prog 14 #[.agg #[.int .i64 (d.kind : Int), .int .i64 d.r0, .int .i64 d.r1, .int .i64 d.r2, .int .i64 d.r3, .slice p n c, .int .i64 d.sent, .bool d.up], .int .i64 3] w (ReadLit r d' w) := read_lit hq hd (k := 3) (by omega) hr
theorem write_lit3 {w : World} {d d' : Dev} {x : Int} {p : Option Addr} {n c : Nat} (hq : QAt w (.slice p n c) d.q) (hd : Ok d) (hr : wrV d 3 x = d') :
    Calls Try.prog 13 #[.agg #[.int .i64 (d.kind : Int), .int .i64 d.r0, .int .i64 d.r1, .int .i64 d.r2, .int .i64 d.r3, .slice p n c, .int .i64 d.sent, .bool d.up], .int .i64 3, .int .i64 x] w (OneLit d' w) := write_lit hq hd (k := 3) (by omega) hr
theorem new_lit3 {d : Dev} (w : World) (hr : newD 3 = d) : Calls Try.prog 17 #[.int .i64 3] w (OneLit d w) := new_lit w (k := 3) (by omega) hr
end Go.Proofs.Ytbhpnoodpicdkaa
