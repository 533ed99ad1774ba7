/- Devices, in plain words: what reads, writes and what is handed in make of them. -/
import Derived.Test.YtbhpnoodpicdkaaPlain
namespace Go.Proofs.Ytbhpnoodpicdkaa.Dv
open Go.RowKit Plain
set_option linter.unusedVariables false
/-! bits -/
theorem and1 (x : Int) : bits .and .i64 x 1 = x % 2 := by
  show IntKind.i64.wrap ((BitVec.ofInt 64 x &&& BitVec.ofInt 64 1).toNat : Int) = _
  rw [BitVec.toNat_and, show (BitVec.ofInt 64 1).toNat = 1 from rfl, Nat.and_two_pow_sub_one_eq_mod _ 1, BitVec.toNat_ofInt, IntKind.wrap_i64]
  omega
theorem and255 (x : Int) : bits .and .i64 x 255 = x % 256 := by
  show IntKind.i64.wrap ((BitVec.ofInt 64 x &&& BitVec.ofInt 64 255).toNat : Int) = _
  rw [BitVec.toNat_and, show (BitVec.ofInt 64 255).toNat = 255 from rfl, Nat.and_two_pow_sub_one_eq_mod _ 8, BitVec.toNat_ofInt, IntKind.wrap_i64]
  omega
theorem andMax (x : Int) : bits .and .i64 x 2147483647 = x % 2147483648 := by
  show IntKind.i64.wrap ((BitVec.ofInt 64 x &&& BitVec.ofInt 64 2147483647).toNat : Int) = _
  rw [BitVec.toNat_and, show (BitVec.ofInt 64 2147483647).toNat = 2147483647 from rfl, Nat.and_two_pow_sub_one_eq_mod _ 31, BitVec.toNat_ofInt, IntKind.wrap_i64]
  omega
def in32 (n : Int) : Prop := -2147483648 ≤ n ∧ n ≤ 2147483647
theorem in32_wrap (n : Int) : in32 (wrap32 n) := ⟨w32_lo n, w32_hi n⟩
theorem wrap_in {n : Int} (h : in32 n) : wrap32 n = n := w32_in n h
theorem ext32 {n : Int} (h : in32 n) : BitVec.ofInt 64 n = (BitVec.ofInt 32 n).signExtend 64 := by
  apply BitVec.eq_of_toInt_eq
  rw [BitVec.toInt_signExtend_of_le (by decide), toInt_ofInt, wrap_in h, BitVec.toInt_ofInt]
  unfold in32 at h
  rw [Int.bmod_def]
  omega
theorem in32_ext (v : BitVec 32) : in32 (IntKind.i64.wrap ((v.signExtend 64).toNat : Int)) := by
  rw [wrap_toNat, BitVec.toInt_signExtend_of_le (by decide)]
  unfold in32
  have h1 := BitVec.le_toInt v
  have h2 := BitVec.toInt_lt (x := v)
  simp at h1 h2
  omega
theorem and_in {a b : Int} (ha : in32 a) (hb : in32 b) : in32 (bits .and .i64 a b) := by
  show in32 (IntKind.i64.wrap ((BitVec.ofInt 64 a &&& BitVec.ofInt 64 b).toNat : Int))
  rw [ext32 ha, ext32 hb, ← BitVec.signExtend_and]
  exact in32_ext _
theorem or_in {a b : Int} (ha : in32 a) (hb : in32 b) : in32 (bits .or .i64 a b) := by
  show in32 (IntKind.i64.wrap ((BitVec.ofInt 64 a ||| BitVec.ofInt 64 b).toNat : Int))
  rw [ext32 ha, ext32 hb, ← BitVec.signExtend_or]
  exact in32_ext _
theorem xor_in {a b : Int} (ha : in32 a) (hb : in32 b) : in32 (bits .xor .i64 a b) := by
  show in32 (IntKind.i64.wrap ((BitVec.ofInt 64 a ^^^ BitVec.ofInt 64 b).toNat : Int))
  rw [ext32 ha, ext32 hb, ← BitVec.signExtend_xor]
  exact in32_ext _
theorem andNot_in {a b : Int} (ha : in32 a) (hb : in32 b) : in32 (bits .andNot .i64 a b) := by
  show in32 (IntKind.i64.wrap ((BitVec.ofInt 64 a &&& ~~~ BitVec.ofInt 64 b).toNat : Int))
  rw [ext32 ha, ext32 hb, ← BitVec.signExtend_not (by decide), ← BitVec.signExtend_and]
  exact in32_ext _
theorem andNot_self (a : Int) : bits .andNot .i64 a a = 0 := by
  show IntKind.i64.wrap ((BitVec.ofInt 64 a &&& ~~~ BitVec.ofInt 64 a).toNat : Int) = 0
  rw [BitVec.and_not_self]
  rfl
/-! devices -/
structure Dev where
  kind : Nat
  r0 : Int
  r1 : Int
  r2 : Int
  r3 : Int
  q : List Int
  sent : Int
  up : Bool
def newD (k : Nat) : Dev := ⟨k, 0, 0, 0, 0, [], 0, false⟩
def upd (d : Dev) : Dev := { d with up := decide (d.r2 % 2 = 1) && !d.q.isEmpty }
def change (d : Dev) (n : Int) : Dev := { d with r3 := n, up := n != 0 }
def rdU (d : Dev) (reg : Nat) : Int × Dev :=
  if reg = 0 then (match d.q with | [] => (-1, d) | n :: t => (n, upd { d with q := t }))
  else if reg = 1 then (if d.q.isEmpty then 2 else 3, d) else if reg = 2 then (d.r2, d) else (d.sent, d)
def rg (d : Dev) (reg : Nat) : Int := if reg = 0 then d.r0 else if reg = 1 then d.r1 else if reg = 2 then d.r2 else d.r3
def rdT (d : Dev) (reg : Nat) : Int := if reg = 3 then (if d.up then 1 else 0) else rg d reg
def rdV (d : Dev) (reg : Nat) : Int × Dev := if d.kind = 1 then rdU d reg else if d.kind = 2 then (rdT d reg, d) else (rg d reg, d)
def wrU (d : Dev) (reg : Nat) (n : Int) : Dev := if reg = 0 then { d with sent := (d.sent + 1) % 2147483648 } else if reg = 2 then upd { d with r2 := n } else d
def wrT (d : Dev) (reg : Nat) (n : Int) : Dev := if reg = 1 then { d with r1 := n } else if reg = 2 then { d with r2 := n } else if reg = 3 then { d with up := false } else d
def wrG (d : Dev) (reg : Nat) (n : Int) : Dev := if reg = 0 then { d with r0 := n } else if reg = 2 then { d with r2 := n } else if reg = 3 then change d (bits .andNot .i64 d.r3 n) else d
def wrV (d : Dev) (reg : Nat) (n : Int) : Dev := if d.kind = 1 then wrU d reg (wrap32 n) else if d.kind = 2 then wrT d reg (wrap32 n) else wrG d reg (wrap32 n)
def inU (d : Dev) (n : Int) : Dev := if d.q.length < 16 then upd { d with q := d.q ++ [n % 256] } else d
def inT (d : Dev) : Dev := { d with r0 := wrap32 (d.r0 + 1), up := d.up || (wrap32 (d.r0 + 1) == d.r1 && decide (d.r2 % 2 = 1)) }
def inG (d : Dev) (n : Int) : Dev := { change d (bits .or .i64 d.r3 (bits .and .i64 (bits .xor .i64 d.r1 n) d.r2)) with r1 := n }
def inV (d : Dev) (n : Int) : Dev := if d.kind = 1 then inU d (wrap32 n) else if d.kind = 2 then inT d else inG d (wrap32 n)
/-- what such calls told -/
structure Ok (d : Dev) : Prop where
  kind : 1 ≤ d.kind ∧ d.kind ≤ 3
  r0 : in32 d.r0
  r1 : in32 d.r1
  r2 : in32 d.r2
  r3 : in32 d.r3
  len : d.q.length ≤ 16
  q : ∀ x ∈ d.q, 0 ≤ x ∧ x ≤ 255
  sent : 0 ≤ d.sent ∧ d.sent ≤ 2147483647
  up : d.kind = 1 → d.up = (decide (d.r2 % 2 = 1) && !d.q.isEmpty)
theorem in0 : in32 0 := by unfold in32; omega
theorem ok_new {k : Nat} (h : 1 ≤ k ∧ k ≤ 3) : Ok (newD k) :=
  ⟨h, in0, in0, in0, in0, (by show 0 ≤ 16; omega), (fun x hx => by cases hx), (by show (0 : Int) ≤ 0 ∧ (0 : Int) ≤ 2147483647; omega), fun _ => rfl⟩
theorem ok_rd {d : Dev} (h : Ok d) (reg : Nat) : Ok (rdV d reg).2 := by
  unfold rdV rdU
  split
  · split
    · split
      · exact h
      · rename_i n t e
        have hl := h.len
        rw [e, List.length_cons] at hl
        exact ⟨h.kind, h.r0, h.r1, h.r2, h.r3, by show t.length ≤ 16; omega, fun x hx => h.q x (by rw [e]; exact List.mem_cons_of_mem _ hx), h.sent, fun _ => rfl⟩
    · split
      · exact h
      · split <;> exact h
  · split <;> exact h
theorem ok_wr {d : Dev} (h : Ok d) (reg : Nat) (n : Int) : Ok (wrV d reg n) := by
  have hn := in32_wrap n
  unfold wrV
  generalize wrap32 n = n at hn
  split
  · rename_i hk
    unfold wrU
    split
    · have := h.sent
      exact ⟨h.kind, h.r0, h.r1, h.r2, h.r3, h.len, h.q, by show 0 ≤ (d.sent + 1) % 2147483648 ∧ (d.sent + 1) % 2147483648 ≤ 2147483647; omega, h.up⟩
    · split
      · exact ⟨h.kind, h.r0, h.r1, hn, h.r3, h.len, h.q, h.sent, fun _ => rfl⟩
      · exact h
  · rename_i hk
    split
    · unfold wrT
      split
      · exact ⟨h.kind, h.r0, hn, h.r2, h.r3, h.len, h.q, h.sent, fun c => absurd c hk⟩
      · split
        · exact ⟨h.kind, h.r0, h.r1, hn, h.r3, h.len, h.q, h.sent, fun c => absurd c hk⟩
        · split
          · exact ⟨h.kind, h.r0, h.r1, h.r2, h.r3, h.len, h.q, h.sent, fun c => absurd c hk⟩
          · exact h
    · unfold wrG
      split
      · exact ⟨h.kind, hn, h.r1, h.r2, h.r3, h.len, h.q, h.sent, fun c => absurd c hk⟩
      · split
        · exact ⟨h.kind, h.r0, h.r1, hn, h.r3, h.len, h.q, h.sent, fun c => absurd c hk⟩
        · split
          · exact ⟨h.kind, h.r0, h.r1, h.r2, andNot_in h.r3 hn, h.len, h.q, h.sent, fun c => absurd c hk⟩
          · exact h
theorem ok_in {d : Dev} (h : Ok d) (n : Int) : Ok (inV d n) := by
  have hn := in32_wrap n
  unfold inV
  generalize wrap32 n = n at hn
  split
  · unfold inU
    split
    · rename_i hl
      refine ⟨h.kind, h.r0, h.r1, h.r2, h.r3, by show (d.q ++ [n % 256]).length ≤ 16; rw [List.length_append, List.length_singleton]; omega, fun x hx => ?_, h.sent, fun _ => rfl⟩
      rcases List.mem_append.1 hx with hx | hx
      · exact h.q x hx
      · rw [List.mem_singleton.1 hx]
        omega
    · exact h
  · rename_i hk
    split
    · exact ⟨h.kind, in32_wrap _, h.r1, h.r2, h.r3, h.len, h.q, h.sent, fun c => absurd c hk⟩
    · exact ⟨h.kind, h.r0, hn, h.r2, or_in h.r3 (and_in (xor_in h.r1 hn) h.r2), h.len, h.q, h.sent, fun c => absurd c hk⟩
/-! the law's own steps -/
def pick (c n : Int) : Int := (if c < 0 then -(c + 1) else c) % n
theorem pick_bd (c : Int) {n : Int} (h : 0 < n) : 0 ≤ pick c n ∧ pick c n < n := ⟨Int.emod_nonneg _ (by omega), Int.emod_lt_of_pos _ h⟩
def stepV (d : Dev) (x : Int × Int × Int) : Int × Dev :=
  if pick x.1 3 = 0 then rdV d (pick x.2.1 4).toNat else if pick x.1 3 = 1 then (0, wrV d (pick x.2.1 4).toNat x.2.2) else (0, inV d x.2.2)
def madeV (kind : Int) (raw : List (Int × Int × Int)) : Dev := (raw.take 50).foldl (fun d x => (stepV d x).2) (newD (1 + (pick kind 3).toNat))
theorem ok_step {d : Dev} (h : Ok d) (x : Int × Int × Int) : Ok (stepV d x).2 := by
  unfold stepV
  split
  · exact ok_rd h _
  · split
    · exact ok_wr h _ _
    · exact ok_in h _
theorem kind_rd (d : Dev) (reg : Nat) : (rdV d reg).2.kind = d.kind := by
  unfold rdV rdU
  split
  · split
    · split <;> rfl
    · split
      · rfl
      · split <;> rfl
  · split <;> rfl
theorem kind_wr (d : Dev) (reg : Nat) (n : Int) : (wrV d reg n).kind = d.kind := by
  unfold wrV
  split
  · unfold wrU; split; rfl; split <;> rfl
  · split
    · unfold wrT; split; rfl; split; rfl; split <;> rfl
    · unfold wrG; split; rfl; split; rfl; split <;> rfl
theorem kind_in (d : Dev) (n : Int) : (inV d n).kind = d.kind := by
  unfold inV
  split
  · unfold inU; split <;> rfl
  · split <;> rfl
theorem kind_step (d : Dev) (x : Int × Int × Int) : (stepV d x).2.kind = d.kind := by
  unfold stepV
  split
  · exact kind_rd _ _
  · split
    · exact kind_wr _ _ _
    · exact kind_in _ _
theorem fold_ok (l : List (Int × Int × Int)) : ∀ {d : Dev}, Ok d → Ok (l.foldl (fun d x => (stepV d x).2) d) ∧ (l.foldl (fun d x => (stepV d x).2) d).kind = d.kind := by
  induction l with
  | nil => exact fun h => ⟨h, rfl⟩
  | cons x l ih => exact fun h => ⟨(ih (ok_step h x)).1, (ih (ok_step h x)).2.trans (kind_step _ _)⟩
theorem made_ok (kind : Int) (raw : List (Int × Int × Int)) : Ok (madeV kind raw) ∧ (madeV kind raw).kind = 1 + (pick kind 3).toNat := by
  have h := pick_bd kind (n := 3) (by omega)
  have := fold_ok (raw.take 50) (ok_new (k := 1 + (pick kind 3).toNat) (by omega))
  exact this
/-- whether two are the same -/
def sameV (a b : Dev) : Bool := a.kind == b.kind && (a.r0 == b.r0 && a.r1 == b.r1 && a.r2 == b.r2 && a.r3 == b.r3) && a.q == b.q && a.sent == b.sent && a.up == b.up
theorem sameV_refl (a : Dev) : sameV a a = true := by simp [sameV]
theorem sameV_iff {a b : Dev} : sameV a b = true ↔ a = b := by
  constructor
  · intro h
    cases a; cases b
    simp [sameV] at h
    simp [h]
  · rintro rfl
    exact sameV_refl a
/-- Keeps -/
def keeps (k : Nat) : List Nat := if k = 1 then [2] else if k = 2 then [1, 2] else [0, 2]
theorem keeps_rd {d : Dev} (h : Ok d) {r : Nat} (hr : r ∈ keeps d.kind) (n : Int) : rdV (wrV d r n) r = (wrap32 n, wrV d r n) := by
  have hk := kind_wr d r n
  unfold rdV
  rw [hk]
  unfold keeps at hr
  have := h.kind
  split
  · rename_i h1
    rw [if_pos h1] at hr
    obtain rfl := List.mem_singleton.1 hr
    unfold wrV rdU wrU
    simp [h1, upd]
  · rename_i h1
    rw [if_neg h1] at hr
    split
    · rename_i h2
      rw [if_pos h2] at hr
      rcases List.mem_cons.1 hr with rfl | hr
      · unfold wrV wrT rdT rg
        simp [h2]
      · obtain rfl := List.mem_singleton.1 hr
        unfold wrV wrT rdT rg
        simp [h2]
    · rename_i h2
      rw [if_neg h2] at hr
      rcases List.mem_cons.1 hr with rfl | hr
      · unfold wrV wrG rg
        simp [h1, h2]
      · obtain rfl := List.mem_singleton.1 hr
        unfold wrV wrG rg
        simp [h1, h2]
/-- Looks: a read that isn't of a uart's first register changes nothing -/
theorem looks (d : Dev) {r : Nat} (h : d.kind = 1 → r ≠ 0) : (rdV d r).2 = d := by
  unfold rdV rdU
  split
  · rename_i hk
    rw [if_neg (h hk)]
    split
    · rfl
    · split <;> rfl
  · split <;> rfl
/-- Alike: register 2 keeps what is written -/
theorem alike {d : Dev} (h : Ok d) (n : Int) : rdV (wrV d 2 n) 2 = (wrap32 n, wrV d 2 n) ∧ sameV d (wrV d 2 n) = (d.r2 == wrap32 n) := by
  refine ⟨keeps_rd h (by unfold keeps; split; simp; split <;> simp) n, ?_⟩
  rw [Bool.eq_iff_iff, sameV_iff, beq_iff_eq]
  have hk := h.kind
  constructor
  · intro e
    rw [e]
    unfold wrV wrU wrT wrG
    split
    · simp [upd]
    · split <;> simp
  · intro e
    unfold wrV wrU wrT wrG
    split
    · rename_i h1
      simp [upd, ← e, ← h.up h1]
    · split <;> simp [← e]
end Go.Proofs.Ytbhpnoodpicdkaa.Dv
