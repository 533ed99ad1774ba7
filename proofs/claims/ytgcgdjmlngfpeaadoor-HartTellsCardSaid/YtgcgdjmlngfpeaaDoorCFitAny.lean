/- What Fit makes of a raw instruction, in one contract: the plain function fit. -/
import Derived.Test.YtgcgdjmlngfpeaaDoorCFit
namespace Go.Proofs.YtgcgdjmlngfpeaaDoor
open Go.RowKit Rv
def ival (i : Ins) : Value := .agg #[.int .i64 i.op, .int .i64 i.d, .int .i64 i.a, .int .i64 i.b, .int .i64 i.n]
abbrev inInt (n : Int) : Prop := -9223372036854775808 ≤ n ∧ n ≤ 9223372036854775807
structure Ins.wf (i : Ins) : Prop where
  op : inInt i.op
  d : inInt i.d
  a : inInt i.a
  b : inInt i.b
  n : inInt i.n
theorem fit_any (i : Ins) (hi : Ins.wf i) (w : World) : Calls Tryd.prog 14 #[ival i] w fun e w' => e = .returned (ival (fit i)) ∧ Both w w' := by
  obtain ⟨⟨o1, o2⟩, ⟨d1, d2⟩, ⟨a1, a2⟩, ⟨b1, b2⟩, ⟨n1, n2⟩⟩ := hi
  obtain ⟨k0, k1⟩ := pick_bd i.op 49 (by omega)
  have hv : ∀ f, form (1 + pick i.op 49) = f → Hid (rowVals (1 + pick i.op 49) = [.string ⟨(name (1 + pick i.op 49)).toArray⟩, .int .u8 f, .int .i64 (low (1 + pick i.op 49)), .int .i64 (mid (1 + pick i.op 49)), .int .i64 (high (1 + pick i.op 49))]) := by
    intro f hf
    subst hf
    rfl
  have hq : ∀ m, 1 ≤ m → 0 ≤ pick i.n m ∧ pick i.n m < m := fun m hm => pick_bd i.n m hm
  rcases form_is (op := 1 + pick i.op 49) (by omega) (by omega) with hf | hf | hf | hf | hf | hf | hf | hf | hf | hf | hf | hf
  · have e : ival (fit i) = .agg #[.int .i64 (1 + pick i.op 49), .int .i64 (pick i.d 32), .int .i64 (pick i.a 32), .int .i64 (pick i.b 32), .int .i64 (0)] := by
      simp [ival, fit, fitN, hf, hasD, hasA, hasB]
    rw [e]
    exact fit_R i.op i.d i.a i.b i.n (pick i.op 49) (pick i.d 32) (pick i.a 32) (pick i.b 32) 0 _ _ _ _ o1 o2 d1 d2 a1 a2 b1 b2 n1 n2 k0 k1 rfl rfl rfl rfl (hv _ hf) w
  · have e : ival (fit i) = .agg #[.int .i64 (1 + pick i.op 49), .int .i64 (pick i.d 32), .int .i64 (pick i.a 32), .int .i64 0, .int .i64 (pick i.n 4096 - 2048)] := by
      simp [ival, fit, fitN, hf, hasD, hasA, hasB]
    rw [e]
    exact fit_I i.op i.d i.a i.b i.n (pick i.op 49) (pick i.d 32) (pick i.a 32) (pick i.b 32) (pick i.n 4096) _ _ _ _ o1 o2 d1 d2 a1 a2 b1 b2 n1 n2 k0 k1 rfl rfl rfl rfl (hq 4096 (by omega)).1 (hq 4096 (by omega)).2 (hv _ hf) w
  · have e : ival (fit i) = .agg #[.int .i64 (1 + pick i.op 49), .int .i64 (pick i.d 32), .int .i64 (pick i.a 32), .int .i64 0, .int .i64 (pick i.n 4096)] := by
      simp [ival, fit, fitN, hf, hasD, hasA, hasB]
    rw [e]
    exact fit_C i.op i.d i.a i.b i.n (pick i.op 49) (pick i.d 32) (pick i.a 32) (pick i.b 32) (pick i.n 4096) _ _ _ _ o1 o2 d1 d2 a1 a2 b1 b2 n1 n2 k0 k1 rfl rfl rfl rfl (hq 4096 (by omega)).1 (hq 4096 (by omega)).2 (hv _ hf) w
  · have e : ival (fit i) = .agg #[.int .i64 (1 + pick i.op 49), .int .i64 (pick i.d 32), .int .i64 (pick i.a 32), .int .i64 0, .int .i64 (pick i.n 32)] := by
      simp [ival, fit, fitN, hf, hasD, hasA, hasB]
    rw [e]
    exact fit_H i.op i.d i.a i.b i.n (pick i.op 49) (pick i.d 32) (pick i.a 32) (pick i.b 32) (pick i.n 32) _ _ _ _ o1 o2 d1 d2 a1 a2 b1 b2 n1 n2 k0 k1 rfl rfl rfl rfl (hq 32 (by omega)).1 (hq 32 (by omega)).2 (hv _ hf) w
  · have e : ival (fit i) = .agg #[.int .i64 (1 + pick i.op 49), .int .i64 0, .int .i64 (pick i.a 32), .int .i64 (pick i.b 32), .int .i64 (pick i.n 4096 - 2048)] := by
      simp [ival, fit, fitN, hf, hasD, hasA, hasB]
    rw [e]
    exact fit_S i.op i.d i.a i.b i.n (pick i.op 49) (pick i.d 32) (pick i.a 32) (pick i.b 32) (pick i.n 4096) _ _ _ _ o1 o2 d1 d2 a1 a2 b1 b2 n1 n2 k0 k1 rfl rfl rfl rfl (hq 4096 (by omega)).1 (hq 4096 (by omega)).2 (hv _ hf) w
  · have e : ival (fit i) = .agg #[.int .i64 (1 + pick i.op 49), .int .i64 0, .int .i64 (pick i.a 32), .int .i64 (pick i.b 32), .int .i64 (2 * pick i.n 4096 - 4096)] := by
      simp [ival, fit, fitN, hf, hasD, hasA, hasB]
    rw [e]
    exact fit_B i.op i.d i.a i.b i.n (pick i.op 49) (pick i.d 32) (pick i.a 32) (pick i.b 32) (pick i.n 4096) _ _ _ _ o1 o2 d1 d2 a1 a2 b1 b2 n1 n2 k0 k1 rfl rfl rfl rfl (hq 4096 (by omega)).1 (hq 4096 (by omega)).2 (hv _ hf) w
  · have e : ival (fit i) = .agg #[.int .i64 (1 + pick i.op 49), .int .i64 (pick i.d 32), .int .i64 0, .int .i64 0, .int .i64 (pick i.n 1048576)] := by
      simp [ival, fit, fitN, hf, hasD, hasA, hasB]
    rw [e]
    exact fit_U i.op i.d i.a i.b i.n (pick i.op 49) (pick i.d 32) (pick i.a 32) (pick i.b 32) (pick i.n 1048576) _ _ _ _ o1 o2 d1 d2 a1 a2 b1 b2 n1 n2 k0 k1 rfl rfl rfl (hq 1048576 (by omega)).1 (hq 1048576 (by omega)).2 (hv _ hf) w
  · have e : ival (fit i) = .agg #[.int .i64 (1 + pick i.op 49), .int .i64 (pick i.d 32), .int .i64 0, .int .i64 0, .int .i64 (2 * pick i.n 1048576 - 1048576)] := by
      simp [ival, fit, fitN, hf, hasD, hasA, hasB]
    rw [e]
    exact fit_J i.op i.d i.a i.b i.n (pick i.op 49) (pick i.d 32) (pick i.a 32) (pick i.b 32) (pick i.n 1048576) _ _ _ _ o1 o2 d1 d2 a1 a2 b1 b2 n1 n2 k0 k1 rfl rfl rfl (hq 1048576 (by omega)).1 (hq 1048576 (by omega)).2 (hv _ hf) w
  · have e : ival (fit i) = .agg #[.int .i64 (1 + pick i.op 49), .int .i64 0, .int .i64 0, .int .i64 0, .int .i64 (pick i.n 256)] := by
      simp [ival, fit, fitN, hf, hasD, hasA, hasB]
    rw [e]
    exact fit_F i.op i.d i.a i.b i.n (pick i.op 49) (pick i.d 32) (pick i.a 32) (pick i.b 32) (pick i.n 256) _ _ _ _ o1 o2 d1 d2 a1 a2 b1 b2 n1 n2 k0 k1 rfl rfl (hq 256 (by omega)).1 (hq 256 (by omega)).2 (hv _ hf) w
  · have e : ival (fit i) = .agg #[.int .i64 (1 + pick i.op 49), .int .i64 0, .int .i64 0, .int .i64 0, .int .i64 (0)] := by
      simp [ival, fit, fitN, hf, hasD, hasA, hasB]
    rw [e]
    exact fit_Z i.op i.d i.a i.b i.n (pick i.op 49) (pick i.d 32) (pick i.a 32) (pick i.b 32) 0 _ _ _ _ o1 o2 d1 d2 a1 a2 b1 b2 n1 n2 k0 k1 rfl (hv _ hf) w
  · have e : ival (fit i) = .agg #[.int .i64 (1 + pick i.op 49), .int .i64 (pick i.d 32), .int .i64 (pick i.a 32), .int .i64 0, .int .i64 (pick i.n 4)] := by
      simp [ival, fit, fitN, hf, hasD, hasA, hasB]
    rw [e]
    exact fit_L i.op i.d i.a i.b i.n (pick i.op 49) (pick i.d 32) (pick i.a 32) (pick i.b 32) (pick i.n 4) _ _ _ _ o1 o2 d1 d2 a1 a2 b1 b2 n1 n2 k0 k1 rfl rfl rfl rfl (hq 4 (by omega)).1 (hq 4 (by omega)).2 (hv _ hf) w
  · have e : ival (fit i) = .agg #[.int .i64 (1 + pick i.op 49), .int .i64 (pick i.d 32), .int .i64 (pick i.a 32), .int .i64 (pick i.b 32), .int .i64 (pick i.n 4)] := by
      simp [ival, fit, fitN, hf, hasD, hasA, hasB]
    rw [e]
    exact fit_A i.op i.d i.a i.b i.n (pick i.op 49) (pick i.d 32) (pick i.a 32) (pick i.b 32) (pick i.n 4) _ _ _ _ o1 o2 d1 d2 a1 a2 b1 b2 n1 n2 k0 k1 rfl rfl rfl rfl rfl (hq 4 (by omega)).1 (hq 4 (by omega)).2 (hv _ hf) w
end Go.Proofs.YtgcgdjmlngfpeaaDoor
