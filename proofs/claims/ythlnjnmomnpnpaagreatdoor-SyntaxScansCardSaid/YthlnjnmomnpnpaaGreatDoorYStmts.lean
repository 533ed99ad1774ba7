/- Package syntax: are statements right? -/
import Derived.Test.YthlnjnmomnpnpaaGreatDoorYExprs
namespace Go.Proofs.YthlnjnmomnpnpaaGreatDoor
open Go.RowKit Tk Sy
set_option linter.unusedVariables false
set_option linter.unusedSimpArgs false
abbrev stA (x : St) (q : Option Addr) (c : Nat) (q1 : Option Addr) (c1 : Nat) (q2 : Option Addr) (c2 : Nat) : Array Value := #[.int .i64 x.kind, .string x.name, .string x.src, .int .i64 x.n, .slice q x.args.length c, .slice q1 x.thn.length c1, .slice q2 x.els.length c2]
set_option maxHeartbeats 8000000 in
theorem fitsS_lit {s : Shp} {x : St} {q q1 q2 : Option Addr} {c c1 c2 : Nat} {r : Bool} (h : fitsS s x = r) (hw : WfS x) (w : World) :
    Calls Tryz.prog 100 #[shV s, stV q c q1 c1 q2 c2 x] w fun e w' => e = .returned (.bool r) ∧ Bel w w' := by
  have hnm := hw.name
  have hsm := hw.src
  have hla := hw.args
  have hlt := hw.thn
  have hle := hw.els
  obtain ⟨b1, hb1⟩ : ∃ b, nameIf s.nm x.name = b := ⟨_, rfl⟩
  obtain ⟨b2, hb2⟩ : ∃ b, nameIf s.src x.src = b := ⟨_, rfl⟩
  obtain ⟨b3, hb3⟩ : ∃ b, within x.n 0 s.most = b := ⟨_, rfl⟩
  obtain ⟨b4, hb4⟩ : ∃ b, ((x.args.length : Int) == s.args) = b := ⟨_, rfl⟩
  obtain ⟨b5, hb5⟩ : ∃ b, ((x.thn.length : Int) == 0) = b := ⟨_, rfl⟩
  obtain ⟨b6, hb6⟩ : ∃ b, ((x.els.length : Int) == 0) = b := ⟨_, rfl⟩
  have HR : Hid ((s.known && (b1 && (b2 && (b3 && (b4 && ((s.thn || b5) && (s.els || b6))))))) = r) := Lib.hid (by
    rw [← h]
    unfold fitsS
    rw [hb1, hb2, hb3, ← hb4, ← hb5, ← hb6, eqI, eqI, eqI]
    simp only [Int.natCast_eq_zero])
  obtain ⟨kn, nmb, srcb, mo, so, sa, th, el⟩ := s
  obtain ⟨ek, ena, esr, en, ea, et, ee⟩ := x
  simp only at HR hb1 hb2 hb3 hb4 hb5 hb6
  simp only [St.n, St.name, St.src, St.args, St.thn, St.els] at HR hb1 hb2 hb3 hb4 hb5 hb6 hnm hsm hla hlt hle
  have HB1 := Lib.hid hb1
  have HB2 := Lib.hid hb2
  have HB3 := Lib.hid hb3
  have HNM := Lib.hid hnm
  have HSM := Lib.hid hsm
  clear hb1 hb2 hb3 hnm hsm h hw
  show Calls Tryz.prog 100 #[.agg #[.bool kn, .bool nmb, .bool srcb, .int .i64 mo, .int .i64 so, .int .i64 sa, .bool th, .bool el], .agg #[.int .i64 ek, .string ena, .string esr, .int .i64 en, .slice q ea.length c, .slice q1 et.length c1, .slice q2 ee.length c2]] w _
  go_enter Tryz.func100, Tryz.ntmps100
  go_upto_region 1 with (fail)
  have hA := (heap_alloc_old (w.alloc (.cells #[.bool kn, .bool nmb, .bool srcb, .int .i64 mo, .int .i64 so, .int .i64 sa, .bool th, .bool el] 120)) (.cells #[.int .i64 ek, .string ena, .string esr, .int .i64 en, .slice q ea.length c, .slice q1 et.length c1, .slice q2 ee.length c2] 52) (lt_of_heap (heap_alloc_new w _))).trans (heap_alloc_new w (.cells #[.bool kn, .bool nmb, .bool srcb, .int .i64 mo, .int .i64 so, .int .i64 sa, .bool th, .bool el] 120))
  have hB := heap_alloc_new (w.alloc (.cells #[.bool kn, .bool nmb, .bool srcb, .int .i64 mo, .int .i64 so, .int .i64 sa, .bool th, .bool el] 120)) (.cells #[.int .i64 ek, .string ena, .string esr, .int .i64 en, .slice q ea.length c, .slice q1 et.length c1, .slice q2 ee.length c2] 52)
  have hz : (w.alloc (.cells #[.bool kn, .bool nmb, .bool srcb, .int .i64 mo, .int .i64 so, .int .i64 sa, .bool th, .bool el] 120)).heap.size = w.heap.size + 1 := by unfold World.alloc; exact Array.size_push _
  rw [hz] at hB
  have hb0 := ((Bel.refl w).alloc #[.bool kn, .bool nmb, .bool srcb, .int .i64 mo, .int .i64 so, .int .i64 sa, .bool th, .bool el] 120).alloc #[.int .i64 ek, .string ena, .string esr, .int .i64 en, .slice q ea.length c, .slice q1 et.length c1, .slice q2 ee.length c2] 52
  generalize (w.alloc (.cells #[.bool kn, .bool nmb, .bool srcb, .int .i64 mo, .int .i64 so, .int .i64 sa, .bool th, .bool el] 120)).alloc (.cells #[.int .i64 ek, .string ena, .string esr, .int .i64 en, .slice q ea.length c, .slice q1 et.length c1, .slice q2 ee.length c2] 52) = W at hA hB hb0 ⊢
  have a0 : W.cell? ⟨w.heap.size, 0, none⟩ = some (.bool kn) := cell_of_heap hA 0
  have a1 : W.cell? ⟨w.heap.size, 1, none⟩ = some (.bool nmb) := cell_of_heap hA 1
  have a2 : W.cell? ⟨w.heap.size, 2, none⟩ = some (.bool srcb) := cell_of_heap hA 2
  have a3 : W.cell? ⟨w.heap.size, 3, none⟩ = some (.int .i64 mo) := cell_of_heap hA 3
  have a5 : W.cell? ⟨w.heap.size, 5, none⟩ = some (.int .i64 sa) := cell_of_heap hA 5
  have a6 : W.cell? ⟨w.heap.size, 6, none⟩ = some (.bool th) := cell_of_heap hA 6
  have a7 : W.cell? ⟨w.heap.size, 7, none⟩ = some (.bool el) := cell_of_heap hA 7
  have e1 : W.cell? ⟨w.heap.size + 1, 1, none⟩ = some (.string ena) := cell_of_heap hB 1
  have e2 : W.cell? ⟨w.heap.size + 1, 2, none⟩ = some (.string esr) := cell_of_heap hB 2
  have e3 : W.cell? ⟨w.heap.size + 1, 3, none⟩ = some (.int .i64 en) := cell_of_heap hB 3
  have e4 : W.cell? ⟨w.heap.size + 1, 4, none⟩ = some (.slice q ea.length c) := cell_of_heap hB 4
  have e5 : W.cell? ⟨w.heap.size + 1, 5, none⟩ = some (.slice q1 et.length c1) := cell_of_heap hB 5
  have e6 : W.cell? ⟨w.heap.size + 1, 6, none⟩ = some (.slice q2 ee.length c2) := cell_of_heap hB 6
  have HB := Lib.hid hb0
  clear hA hB hz hb0
  have hq : kn = false ∨ (kn = true ∧ b1 = false) ∨ (kn = true ∧ b1 = true ∧ b2 = false) ∨ (kn = true ∧ b1 = true ∧ b2 = true ∧ b3 = false) ∨ (kn = true ∧ b1 = true ∧ b2 = true ∧ b3 = true ∧ b4 = false) ∨ (kn = true ∧ b1 = true ∧ b2 = true ∧ b3 = true ∧ b4 = true ∧ th = false ∧ b5 = false) ∨ (kn = true ∧ b1 = true ∧ b2 = true ∧ b3 = true ∧ b4 = true ∧ th = false ∧ b5 = true ∧ el = false) ∨ (kn = true ∧ b1 = true ∧ b2 = true ∧ b3 = true ∧ b4 = true ∧ th = false ∧ b5 = true ∧ el = true) ∨ (kn = true ∧ b1 = true ∧ b2 = true ∧ b3 = true ∧ b4 = true ∧ th = true ∧ el = false) ∨ (kn = true ∧ b1 = true ∧ b2 = true ∧ b3 = true ∧ b4 = true ∧ th = true ∧ el = true) := by cases kn <;> cases b1 <;> cases b2 <;> cases b3 <;> cases b4 <;> cases th <;> cases b5 <;> cases el <;> simp
  rcases hq with rfl | ⟨rfl, rfl⟩ | ⟨rfl, rfl, rfl⟩ | ⟨rfl, rfl, rfl, rfl⟩ | ⟨rfl, rfl, rfl, rfl, rfl⟩ | ⟨rfl, rfl, rfl, rfl, rfl, rfl, rfl⟩ | ⟨rfl, rfl, rfl, rfl, rfl, rfl, rfl, rfl⟩ | ⟨rfl, rfl, rfl, rfl, rfl, rfl, rfl, rfl⟩ | ⟨rfl, rfl, rfl, rfl, rfl, rfl, rfl⟩ | ⟨rfl, rfl, rfl, rfl, rfl, rfl, rfl⟩
  all_goals
    go_wp2_with (first
      | (go_at_call 29; ((with_reducible refine (within_lit HB3.out _).mono ?_); rintro e w' ⟨rfl, rfl⟩))
      | (go_at_call 104; ((with_reducible refine (nameIf_lit HB1.out HNM.out _).mono ?_); rintro e w' ⟨rfl, rfl⟩))
      | (go_at_call 104; ((with_reducible refine (nameIf_lit HB2.out HSM.out _).mono ?_); rintro e w' ⟨rfl, rfl⟩)))
    go_ret
    exact ⟨by have e := HR.out; subst e; rfl, HB.out⟩
def bodyS : Nat → St → Bool
  | 0, _ => false
  | d + 1, s => fitsS (sShp s.kind) s && (areE 30 s.args && (areS d s.thn && areS d s.els))
theorem areS_all (d : Nat) (l : List St) : areS d l = l.all (bodyS d) := by
  cases d with
  | zero => cases l <;> simp [areS, bodyS]
  | succ d => rfl
def SS (g9 Bd : Nat) (q : Option Addr) (c : Nat) (q1 : Option Addr) (c1 : Nat) (q2 : Option Addr) (c2 : Nat) (x : St) (v : Int) (w' : World) : Prop := w'.cell? ⟨g9, 0, none⟩ = some (.int .i64 x.kind) ∧ w'.cell? ⟨g9, 1, none⟩ = some (.string x.name) ∧ w'.cell? ⟨g9, 2, none⟩ = some (.string x.src) ∧ w'.cell? ⟨g9, 3, none⟩ = some (.int .i64 x.n) ∧ w'.cell? ⟨g9, 4, none⟩ = some (.slice q x.args.length c) ∧ w'.cell? ⟨g9, 5, none⟩ = some (.slice q1 x.thn.length c1) ∧ w'.cell? ⟨g9, 6, none⟩ = some (.slice q2 x.els.length c2) ∧ w'.cell? ⟨Bd, 0, none⟩ = some (.int .i64 v)
def StmtsAt (d : Nat) : Prop := ∀ (w : World) (p : Option Addr) (c : Nat) (l : List St), SAt w p l → l.length ≤ 9223372036854775807 → Calls Tryz.prog 63 #[.slice p l.length c, .int .i64 (d : Int)] w fun e w' => e = .returned (.bool (areS d l)) ∧ Bel w w'
set_option maxRecDepth 100000 in
set_option maxHeartbeats 8000000 in
theorem allS_any {p : St → Bool} {cap : Array Value} (w : World) (q : Option Addr) (c : Nat) (l : List St) (h : SAt w q l) (hl : l.length ≤ 9223372036854775807)
    (hcl : ∀ (x : St) (q : Option Addr) (c : Nat) (q1 : Option Addr) (c1 : Nat) (q2 : Option Addr) (c2 : Nat) (w' : World), Bel w w' → WfS x → EAt w' q x.args → SAt w' q1 x.thn → SAt w' q2 x.els → Calls Tryz.prog 98 (#[stV q c q1 c1 q2 c2 x] ++ cap) w' fun r w'' => r = .returned (.bool (p x)) ∧ Bel w' w'') :
    Calls Tryz.prog 97 #[.slice q l.length c, .func (.func 98) #[] cap] w fun e w' => e = .returned (.bool (l.all p)) ∧ Bel w w' := by
  have HCL := Lib.hid hcl
  have HE := Lib.hid h
  obtain ⟨n, hn⟩ : ∃ n, l.length = n := ⟨_, rfl⟩
  rw [hn] at hl ⊢
  have HN := Lib.hid hn
  clear hcl h hn
  go_enter Tryz.func97, Tryz.ntmps97
  go_wp2_with fail
  go_loopg [9] n (fun gk ii wr => ∃ i : Nat, i + gk = n ∧ ii = .int .i64 i ∧ Hid ((l.take i).all p = true) ∧ Hid (Bel w wr))
  case atStart => exact ⟨0, by omega, rfl, Lib.hid (by simp), Lib.hid (Bel.refl _)⟩
  case round =>
    obtain ⟨i, hig, rfl, HA, HB⟩ := hrel
    by_cases hlt : i < n
    · obtain ⟨x, hx⟩ : ∃ x, l[i]? = some x := ⟨_, List.getElem?_eq_getElem (by rw [HN.out]; exact hlt)⟩
      obtain ⟨hw, b, o, q, c, q1, c1, q2, c2, rfl, hbl, ⟨k0, k1, k2, k3, k4, k5, k6⟩, hE, hT, hL⟩ := (HE.out.bel HB.out).get hx
      have HW := Lib.hid hw
      have HEX := Lib.hid hE
      have HTX := Lib.hid hT
      have HLX := Lib.hid hL
      have HX := Lib.hid hx
      have hk1 : (i : Int) < n := by omega
      clear hw hE hT hL hx
      go_upto_region 4 with (fail)
      have hb9 := (Bel.refl wr).alloc (stA x q c q1 c1 q2 c2) 52
      have hx9 := heap_alloc_new wr (.cells (stA x q c q1 c1 q2 c2) 52)
      generalize wr.alloc (.cells (stA x q c q1 c1 q2 c2) 52) = W9 at hb9 hx9 ⊢
      have HB := Lib.hid (HB.out.trans hb9)
      have HEX := Lib.hid (HEX.out.bel hb9)
      have HTX := Lib.hid (HTX.out.bel hb9)
      have HLX := Lib.hid (HLX.out.bel hb9)
      generalize wr.heap.size = g9 at hx9 ⊢
      clear k0 k1 k2 k3 k4 k5 k6 hb9
      have k0 := cell_of_heap hx9 0
      have k1 := cell_of_heap hx9 1
      have k2 := cell_of_heap hx9 2
      have k3 := cell_of_heap hx9 3
      have k4 := cell_of_heap hx9 4
      have k5 := cell_of_heap hx9 5
      have k6 := cell_of_heap hx9 6
      simp only [List.getElem?_toArray, List.getElem?_cons_zero, List.getElem?_cons_succ] at k0 k1 k2 k3 k4 k5 k6
      clear hx9
      obtain ⟨r, hr⟩ : ∃ r, p x = r := ⟨_, rfl⟩
      have HR := Lib.hid hr
      clear hr
      go_wp2_with (go_at_call 98; refine (HCL.out x q c q1 c1 q2 c2 _ HB.out HW.out HEX.out HTX.out HLX.out).mono ?_)
      rintro e W2 ⟨rfl, hb⟩
      rw [HR.out]
      have HB := Lib.hid (HB.out.trans hb)
      clear hb k0 k1 k2 k3 k4 k5 k6
      cases r with
      | true =>
        go_wp2_with fail
        go_roundg (gk - 1)
        case measure => omega
        case rel => exact ⟨i + 1, by omega, by go_num, Lib.hid (by rw [all_step HX.out, HA.out, HR.out]; rfl), HB⟩
      | false =>
        go_wp2_with fail
        go_ret
        exact ⟨rb (all_no HX.out HR.out).symm, HB.out⟩
    · obtain rfl : i = n := by omega
      go_wp2_with fail
      go_ret
      have ha := HA.out
      rw [List.take_of_length_le (Nat.le_of_eq HN.out)] at ha
      exact ⟨rb ha.symm, HB.out⟩
set_option maxRecDepth 100000 in
set_option maxHeartbeats 8000000 in
theorem cloS_zero {x : St} {q q1 q2 : Option Addr} {c c1 c2 Bd : Nat} (w : World) (hd : w.heap[Bd]? = some (.cells #[.int .i64 0] 3 (0, 0))) :
    Calls Tryz.prog 98 #[stV q c q1 c1 q2 c2 x, .pointer (some ⟨Bd, 0, none⟩)] w fun r w'' => r = .returned (.bool false) ∧ Bel w w'' := by
  go_enter Tryz.func98, Tryz.ntmps98
  go_upto_region 1 with (fail)
  have hb9 := (Bel.refl w).alloc (stA x q c q1 c1 q2 c2) 52
  have d0 := cell_of_heap (hb9.stays hd) 0
  simp only [List.getElem?_toArray, List.getElem?_cons_zero, List.getElem?_cons_succ] at d0
  generalize w.alloc (.cells (stA x q c q1 c1 q2 c2) 52) = W9 at hb9 d0 ⊢
  go_quiet (fail)
  go_wp2
  go_ret
  exact ⟨rfl, hb9.drewN _⟩
set_option maxRecDepth 100000 in
set_option maxHeartbeats 16000000 in
theorem cloS_succ {k : Nat} (hk : k ≤ 1000) (IH : StmtsAt k) {x : St} {q q1 q2 : Option Addr} {c c1 c2 Bd : Nat} (w : World) (hw : WfS x) (h : EAt w q x.args) (hT : SAt w q1 x.thn) (hL : SAt w q2 x.els) (hd : w.heap[Bd]? = some (.cells #[.int .i64 ((k : Int) + 1)] 3 (0, 0))) :
    Calls Tryz.prog 98 #[stV q c q1 c1 q2 c2 x, .pointer (some ⟨Bd, 0, none⟩)] w fun r w'' => r = .returned (.bool (bodyS (k + 1) x)) ∧ Bel w w'' := by
  obtain ⟨sh, hsh⟩ : ∃ sh, sShp x.kind = sh := ⟨_, rfl⟩
  obtain ⟨b1, hb1⟩ : ∃ b, fitsS sh x = b := ⟨_, rfl⟩
  obtain ⟨b2, hb2⟩ : ∃ b, areE 30 x.args = b := ⟨_, rfl⟩
  obtain ⟨b3, hb3⟩ : ∃ b, areS k x.thn = b := ⟨_, rfl⟩
  obtain ⟨b4, hb4⟩ : ∃ b, areS k x.els = b := ⟨_, rfl⟩
  have HV : Hid (bodyS (k + 1) x = (b1 && (b2 && (b3 && b4)))) := Lib.hid (by show (fitsS (sShp x.kind) x && (areE 30 x.args && (areS k x.thn && areS k x.els))) = _; rw [hsh, hb1, hb2, hb3, hb4])
  have HSH := Lib.hid hsh
  have HF := Lib.hid hb1
  have HA := Lib.hid hb2
  have HA3 := Lib.hid hb3
  have HA4 := Lib.hid hb4
  have HW := Lib.hid hw
  have HLE := Lib.hid hw.args
  have HLT := Lib.hid hw.thn
  have HLL := Lib.hid hw.els
  have HIH : Hid (∀ (w : World) (p : Option Addr) (c : Nat) (l : List St) (b : Bool), areS k l = b → SAt w p l → l.length ≤ 9223372036854775807 → Calls Tryz.prog 63 #[.slice p l.length c, .int .i64 (k : Int)] w fun e w' => e = .returned (.bool b) ∧ Bel w w') := Lib.hid (fun w p c l b hb h1 h2 => by subst hb; exact IH w p c l h1 h2)
  have HEA : Hid (∀ (w : World) (p : Option Addr) (c : Nat) (l : List Ex) (b : Bool), areE 30 l = b → EAt w p l → l.length ≤ 9223372036854775807 → Calls Tryz.prog 45 #[.slice p l.length c, .int .i64 30] w fun e w' => e = .returned (.bool b) ∧ Bel w w') := Lib.hid (fun w p c l b hb h1 h2 => by subst hb; exact areExprs_any 30 (by decide) w p c l h1 h2)
  clear hsh hb1 hb2 hb3 hb4 hw IH
  go_enter Tryz.func98, Tryz.ntmps98
  go_upto_region 1 with (fail)
  have hb9 := (Bel.refl w).alloc (stA x q c q1 c1 q2 c2) 52
  have hx9 := heap_alloc_new w (.cells (stA x q c q1 c1 q2 c2) 52)
  have hd9 := hb9.stays hd
  have hE9 := h.bel hb9
  have hT9 := hT.bel hb9
  have hL9 := hL.bel hb9
  generalize w.alloc (.cells (stA x q c q1 c1 q2 c2) 52) = W9 at hb9 hx9 hd9 hE9 hT9 hL9 ⊢
  generalize w.heap.size = g9 at hx9 ⊢
  have HE := Lib.hid hE9
  have HT := Lib.hid hT9
  have HL := Lib.hid hL9
  have HB := Lib.hid hb9
  have HX := Lib.hid hx9
  have HD := Lib.hid hd9
  clear hd h hT hL hb9 hx9 hd9 hE9 hT9 hL9
  have hgt : (0 : Int) < (k : Int) + 1 := by omega
  have hsub : IntKind.i64.wrap (k : Int) = k := IntWalk.i64_in _ (by constructor <;> omega)
  have HKEEP : Hid (∀ w', Bel W9 w' → SS g9 Bd q c q1 c1 q2 c2 x ((k : Int) + 1) w') := Lib.hid (fun w' hb =>
    ⟨cell_of_heap (hb.stays HX.out) 0, cell_of_heap (hb.stays HX.out) 1, cell_of_heap (hb.stays HX.out) 2, cell_of_heap (hb.stays HX.out) 3, cell_of_heap (hb.stays HX.out) 4, cell_of_heap (hb.stays HX.out) 5, cell_of_heap (hb.stays HX.out) 6, cell_of_heap (hb.stays HD.out) 0⟩)
  have hq : b1 = false ∨ (b1 = true ∧ b2 = false) ∨ (b1 = true ∧ b2 = true ∧ b3 = false) ∨ (b1 = true ∧ b2 = true ∧ b3 = true) := by cases b1 <;> cases b2 <;> cases b3 <;> simp
  rcases hq with rfl | ⟨rfl, rfl⟩ | ⟨rfl, rfl, rfl⟩ | ⟨rfl, rfl, rfl⟩
  · refine wp_region_held_drew (S := (SS g9 Bd q c q1 c1 q2 c2 x ((k : Int) + 1))) (by kernel_rfl) (HKEEP.out _ ((Bel.refl W9).drew)) (fun hS0 => ?_)
    refine takeD 4 (i := 0) (v := ?v1) rfl rfl (by kernel_rfl) (by kernel_rfl) (by kernel_rfl) (fun _ _ _ h => h) (by kernel_rfl) ?hy1 hS0 ?rest1
    case hy1 => (intro w0 hSw; obtain ⟨s0, s1, s2, s3, s4, s5, s6, s7⟩ := hSw; first | (go_simp; done) | (go_simp; with_reducible rfl))
    simp only [List.setIfInBounds_toArray, List.set_cons_zero, List.set_cons_succ]
    refine takeD 5 (i := 1) (v := ?v2) rfl rfl (by kernel_rfl) (by kernel_rfl) (by kernel_rfl) (fun _ _ _ h => h) (by kernel_rfl) ?hy2 hS0 ?rest2
    case hy2 => (intro w0 hSw; obtain ⟨s0, s1, s2, s3, s4, s5, s6, s7⟩ := hSw; first | (go_simp; done) | (go_simp; with_reducible rfl))
    simp only [List.setIfInBounds_toArray, List.set_cons_zero, List.set_cons_succ]
    refine takeD 6 (i := 2) (v := ?v3) rfl rfl (by kernel_rfl) (by kernel_rfl) (by kernel_rfl) (fun _ _ _ h => h) (by kernel_rfl) ?hy3 hS0 ?rest3
    case hy3 => (intro w0 hSw; obtain ⟨s0, s1, s2, s3, s4, s5, s6, s7⟩ := hSw; first | (go_simp; done) | (go_simp; with_reducible rfl))
    simp only [List.setIfInBounds_toArray, List.set_cons_zero, List.set_cons_succ]
    refine takeD 7 (i := 3) (v := ?v4) rfl rfl (by kernel_rfl) (by kernel_rfl) (by kernel_rfl) (fun _ _ _ h => h) (by kernel_rfl) ?hy4 hS0 ?rest4
    case hy4 => (intro w0 hSw; obtain ⟨s0, s1, s2, s3, s4, s5, s6, s7⟩ := hSw; first | (go_simp; done) | (go_simp; with_reducible rfl))
    simp only [List.setIfInBounds_toArray, List.set_cons_zero, List.set_cons_succ]
    refine takeD 8 (i := 4) (v := ?v5) rfl rfl (by kernel_rfl) (by kernel_rfl) (by kernel_rfl) (fun _ _ _ h => h) (by kernel_rfl) ?hy5 hS0 ?rest5
    case hy5 => (intro w0 hSw; obtain ⟨s0, s1, s2, s3, s4, s5, s6, s7⟩ := hSw; first | (go_simp; done) | (go_simp; with_reducible rfl))
    simp only [List.setIfInBounds_toArray, List.set_cons_zero, List.set_cons_succ]
    refine takeD 10 (i := 6) (v := ?v6) rfl rfl (by kernel_rfl) (by kernel_rfl) (by kernel_rfl) (fun _ _ _ h => h) (by kernel_rfl) ?hy6 hS0 ?rest6
    case hy6 => (intro w0 hSw; obtain ⟨s0, s1, s2, s3, s4, s5, s6, s7⟩ := hSw; first | (go_simp; done) | (go_simp; with_reducible rfl))
    simp only [List.setIfInBounds_toArray, List.set_cons_zero, List.set_cons_succ]
    refine onlyD 9 (i := 5) rfl rfl (by kernel_rfl) (by kernel_rfl) (fun K hK => ?_)
    go_simp
    go_at_call 99
    refine (sShape_lit HSH.out _).mono ?_
    rintro e whb11 ⟨rfl, hb11⟩
    have hS1 := HKEEP.out _ (((Bel.refl W9).drew).trans hb11)
    refine hK.out _ _ hS1 (fun _ => ?_)
    clear hK K
    simp only [List.setIfInBounds_toArray, List.set_cons_zero, List.set_cons_succ]
    refine onlyD 11 (i := 7) rfl rfl (by kernel_rfl) (by kernel_rfl) (fun K hK => ?_)
    go_simp
    go_at_call 100
    refine (fitsS_lit (q := q) (c := c) (q1 := q1) (c1 := c1) (q2 := q2) (c2 := c2) HF.out HW.out _).mono ?_
    rintro e whb12 ⟨rfl, hb12⟩
    have hS2 := HKEEP.out _ ((((Bel.refl W9).drew).trans hb11).trans hb12)
    refine hK.out _ _ hS2 (fun _ => ?_)
    clear hK K
    simp only [List.setIfInBounds_toArray, List.set_cons_zero, List.set_cons_succ]
    refine takeD 12 (i := 8) (v := ?v7) rfl rfl (by kernel_rfl) (by kernel_rfl) (by kernel_rfl) (fun _ _ _ h => h) (by kernel_rfl) ?hy7 hS2 ?rest7
    case hy7 => (intro w0 hSw; obtain ⟨s0, s1, s2, s3, s4, s5, s6, s7⟩ := hSw; first | (go_simp; done) | (go_simp; with_reducible rfl))
    simp only [List.setIfInBounds_toArray, List.set_cons_zero, List.set_cons_succ]
    refine takeD 13 (i := 9) (v := ?v8) rfl rfl (by kernel_rfl) (by kernel_rfl) (by kernel_rfl) (fun _ _ _ h => h) (by kernel_rfl) ?hy8 hS2 ?rest8
    case hy8 => (intro w0 hSw; obtain ⟨s0, s1, s2, s3, s4, s5, s6, s7⟩ := hSw; first | (go_simp; done) | (go_simp; with_reducible rfl))
    simp only [List.setIfInBounds_toArray, List.set_cons_zero, List.set_cons_succ]
    refine skipD 14 (i := 10) rfl rfl (by kernel_rfl) (by kernel_rfl) (by kernel_rfl) (fun _ _ _ h => h) (by kernel_rfl) hS2 ?_
    simp only [List.setIfInBounds_toArray, List.set_cons_zero, List.set_cons_succ]
    refine skipD 15 (i := 11) rfl rfl (by kernel_rfl) (by kernel_rfl) (by kernel_rfl) (fun _ _ _ h => h) (by kernel_rfl) hS2 ?_
    simp only [List.setIfInBounds_toArray, List.set_cons_zero, List.set_cons_succ]
    refine skipD 16 (i := 12) rfl rfl (by kernel_rfl) (by kernel_rfl) (by kernel_rfl) (fun _ _ _ h => h) (by kernel_rfl) hS2 ?_
    simp only [List.setIfInBounds_toArray, List.set_cons_zero, List.set_cons_succ]
    refine takeD 17 (i := 13) (v := ?v9) rfl rfl (by kernel_rfl) (by kernel_rfl) (by kernel_rfl) (fun _ _ _ h => h) (by kernel_rfl) ?hy9 hS2 ?rest9
    case hy9 => (intro w0 hSw; obtain ⟨s0, s1, s2, s3, s4, s5, s6, s7⟩ := hSw; first | (go_simp; done) | (go_simp; with_reducible rfl))
    simp only [List.setIfInBounds_toArray, List.set_cons_zero, List.set_cons_succ]
    refine takeD 18 (i := 14) (v := ?v10) rfl rfl (by kernel_rfl) (by kernel_rfl) (by kernel_rfl) (fun _ _ _ h => h) (by kernel_rfl) ?hy10 hS2 ?rest10
    case hy10 => (intro w0 hSw; obtain ⟨s0, s1, s2, s3, s4, s5, s6, s7⟩ := hSw; first | (go_simp; done) | (go_simp; with_reducible rfl))
    simp only [List.setIfInBounds_toArray, List.set_cons_zero, List.set_cons_succ]
    refine skipD 19 (i := 15) rfl rfl (by kernel_rfl) (by kernel_rfl) (by kernel_rfl) (fun _ _ _ h => h) (by kernel_rfl) hS2 ?_
    simp only [List.setIfInBounds_toArray, List.set_cons_zero, List.set_cons_succ]
    refine skipD 20 (i := 16) rfl rfl (by kernel_rfl) (by kernel_rfl) (by kernel_rfl) (fun _ _ _ h => h) (by kernel_rfl) hS2 ?_
    simp only [List.setIfInBounds_toArray, List.set_cons_zero, List.set_cons_succ]
    refine skipD 21 (i := 17) rfl rfl (by kernel_rfl) (by kernel_rfl) (by kernel_rfl) (fun _ _ _ h => h) (by kernel_rfl) hS2 ?_
    simp only [List.setIfInBounds_toArray, List.set_cons_zero, List.set_cons_succ]
    refine skipD 22 (i := 18) rfl rfl (by kernel_rfl) (by kernel_rfl) (by kernel_rfl) (fun _ _ _ h => h) (by kernel_rfl) hS2 ?_
    simp only [List.setIfInBounds_toArray, List.set_cons_zero, List.set_cons_succ]
    refine skipD 23 (i := 19) rfl rfl (by kernel_rfl) (by kernel_rfl) (by kernel_rfl) (fun _ _ _ h => h) (by kernel_rfl) hS2 ?_
    simp only [List.setIfInBounds_toArray, List.set_cons_zero, List.set_cons_succ]
    refine takeD 24 (i := 20) (v := ?v11) rfl rfl (by kernel_rfl) (by kernel_rfl) (by kernel_rfl) (fun _ _ _ h => h) (by kernel_rfl) ?hy11 hS2 ?rest11
    case hy11 => (intro w0 hSw; obtain ⟨s0, s1, s2, s3, s4, s5, s6, s7⟩ := hSw; first | (go_simp; done) | (go_simp; with_reducible rfl))
    simp only [List.setIfInBounds_toArray, List.set_cons_zero, List.set_cons_succ]
    refine takeD 25 (i := 21) (v := ?v12) rfl rfl (by kernel_rfl) (by kernel_rfl) (by kernel_rfl) (fun _ _ _ h => h) (by kernel_rfl) ?hy12 hS2 ?rest12
    case hy12 => (intro w0 hSw; obtain ⟨s0, s1, s2, s3, s4, s5, s6, s7⟩ := hSw; first | (go_simp; done) | (go_simp; with_reducible rfl))
    simp only [List.setIfInBounds_toArray, List.set_cons_zero, List.set_cons_succ]
    refine skipD 26 (i := 22) rfl rfl (by kernel_rfl) (by kernel_rfl) (by kernel_rfl) (fun _ _ _ h => h) (by kernel_rfl) hS2 ?_
    simp only [List.setIfInBounds_toArray, List.set_cons_zero, List.set_cons_succ]
    refine skipD 27 (i := 23) rfl rfl (by kernel_rfl) (by kernel_rfl) (by kernel_rfl) (fun _ _ _ h => h) (by kernel_rfl) hS2 ?_
    simp only [List.setIfInBounds_toArray, List.set_cons_zero, List.set_cons_succ]
    refine skipD 28 (i := 24) rfl rfl (by kernel_rfl) (by kernel_rfl) (by kernel_rfl) (fun _ _ _ h => h) (by kernel_rfl) hS2 ?_
    simp only [List.setIfInBounds_toArray, List.set_cons_zero, List.set_cons_succ]
    refine skipD 29 (i := 25) rfl rfl (by kernel_rfl) (by kernel_rfl) (by kernel_rfl) (fun _ _ _ h => h) (by kernel_rfl) hS2 ?_
    simp only [List.setIfInBounds_toArray, List.set_cons_zero, List.set_cons_succ]
    refine skipD 30 (i := 26) rfl rfl (by kernel_rfl) (by kernel_rfl) (by kernel_rfl) (fun _ _ _ h => h) (by kernel_rfl) hS2 ?_
    simp only [List.setIfInBounds_toArray, List.set_cons_zero, List.set_cons_succ]
    refine takeD 31 (i := 27) (v := ?v13) rfl rfl (by kernel_rfl) (by kernel_rfl) (by kernel_rfl) (fun _ _ _ h => h) (by kernel_rfl) ?hy13 hS2 ?rest13
    case hy13 => (intro w0 hSw; obtain ⟨s0, s1, s2, s3, s4, s5, s6, s7⟩ := hSw; first | (go_simp; done) | (go_simp; with_reducible rfl))
    simp only [List.setIfInBounds_toArray, List.set_cons_zero, List.set_cons_succ]
    refine takeD 3 (i := 28) (v := ?v14) rfl rfl (by kernel_rfl) (by kernel_rfl) (by kernel_rfl) (fun _ _ _ h => h) (by kernel_rfl) ?hy14 hS2 ?rest14
    case hy14 => (intro w0 hSw; obtain ⟨s0, s1, s2, s3, s4, s5, s6, s7⟩ := hSw; first | (go_simp; done) | (go_simp; with_reducible rfl))
    simp only [List.setIfInBounds_toArray, List.set_cons_zero, List.set_cons_succ]
    refine wpAnyH_done (by kernel_rfl) ?_ _
    have HB := Lib.hid (HB.out.trans ((((Bel.refl W9).drew).trans hb11).trans hb12))
    clear hb11 hb12 hS0 hS1 hS2
    go_wp2
    go_ret
    exact ⟨rb (by rw [HV.out]; rfl), HB.out⟩
  · refine wp_region_held_drew (S := (SS g9 Bd q c q1 c1 q2 c2 x ((k : Int) + 1))) (by kernel_rfl) (HKEEP.out _ ((Bel.refl W9).drew)) (fun hS0 => ?_)
    refine takeD 4 (i := 0) (v := ?v15) rfl rfl (by kernel_rfl) (by kernel_rfl) (by kernel_rfl) (fun _ _ _ h => h) (by kernel_rfl) ?hy15 hS0 ?rest15
    case hy15 => (intro w0 hSw; obtain ⟨s0, s1, s2, s3, s4, s5, s6, s7⟩ := hSw; first | (go_simp; done) | (go_simp; with_reducible rfl))
    simp only [List.setIfInBounds_toArray, List.set_cons_zero, List.set_cons_succ]
    refine takeD 5 (i := 1) (v := ?v16) rfl rfl (by kernel_rfl) (by kernel_rfl) (by kernel_rfl) (fun _ _ _ h => h) (by kernel_rfl) ?hy16 hS0 ?rest16
    case hy16 => (intro w0 hSw; obtain ⟨s0, s1, s2, s3, s4, s5, s6, s7⟩ := hSw; first | (go_simp; done) | (go_simp; with_reducible rfl))
    simp only [List.setIfInBounds_toArray, List.set_cons_zero, List.set_cons_succ]
    refine takeD 6 (i := 2) (v := ?v17) rfl rfl (by kernel_rfl) (by kernel_rfl) (by kernel_rfl) (fun _ _ _ h => h) (by kernel_rfl) ?hy17 hS0 ?rest17
    case hy17 => (intro w0 hSw; obtain ⟨s0, s1, s2, s3, s4, s5, s6, s7⟩ := hSw; first | (go_simp; done) | (go_simp; with_reducible rfl))
    simp only [List.setIfInBounds_toArray, List.set_cons_zero, List.set_cons_succ]
    refine takeD 7 (i := 3) (v := ?v18) rfl rfl (by kernel_rfl) (by kernel_rfl) (by kernel_rfl) (fun _ _ _ h => h) (by kernel_rfl) ?hy18 hS0 ?rest18
    case hy18 => (intro w0 hSw; obtain ⟨s0, s1, s2, s3, s4, s5, s6, s7⟩ := hSw; first | (go_simp; done) | (go_simp; with_reducible rfl))
    simp only [List.setIfInBounds_toArray, List.set_cons_zero, List.set_cons_succ]
    refine takeD 8 (i := 4) (v := ?v19) rfl rfl (by kernel_rfl) (by kernel_rfl) (by kernel_rfl) (fun _ _ _ h => h) (by kernel_rfl) ?hy19 hS0 ?rest19
    case hy19 => (intro w0 hSw; obtain ⟨s0, s1, s2, s3, s4, s5, s6, s7⟩ := hSw; first | (go_simp; done) | (go_simp; with_reducible rfl))
    simp only [List.setIfInBounds_toArray, List.set_cons_zero, List.set_cons_succ]
    refine takeD 10 (i := 6) (v := ?v20) rfl rfl (by kernel_rfl) (by kernel_rfl) (by kernel_rfl) (fun _ _ _ h => h) (by kernel_rfl) ?hy20 hS0 ?rest20
    case hy20 => (intro w0 hSw; obtain ⟨s0, s1, s2, s3, s4, s5, s6, s7⟩ := hSw; first | (go_simp; done) | (go_simp; with_reducible rfl))
    simp only [List.setIfInBounds_toArray, List.set_cons_zero, List.set_cons_succ]
    refine onlyD 9 (i := 5) rfl rfl (by kernel_rfl) (by kernel_rfl) (fun K hK => ?_)
    go_simp
    go_at_call 99
    refine (sShape_lit HSH.out _).mono ?_
    rintro e whb11 ⟨rfl, hb11⟩
    have hS1 := HKEEP.out _ (((Bel.refl W9).drew).trans hb11)
    refine hK.out _ _ hS1 (fun _ => ?_)
    clear hK K
    simp only [List.setIfInBounds_toArray, List.set_cons_zero, List.set_cons_succ]
    refine onlyD 11 (i := 7) rfl rfl (by kernel_rfl) (by kernel_rfl) (fun K hK => ?_)
    go_simp
    go_at_call 100
    refine (fitsS_lit (q := q) (c := c) (q1 := q1) (c1 := c1) (q2 := q2) (c2 := c2) HF.out HW.out _).mono ?_
    rintro e whb12 ⟨rfl, hb12⟩
    have hS2 := HKEEP.out _ ((((Bel.refl W9).drew).trans hb11).trans hb12)
    refine hK.out _ _ hS2 (fun _ => ?_)
    clear hK K
    simp only [List.setIfInBounds_toArray, List.set_cons_zero, List.set_cons_succ]
    refine takeD 12 (i := 8) (v := ?v21) rfl rfl (by kernel_rfl) (by kernel_rfl) (by kernel_rfl) (fun _ _ _ h => h) (by kernel_rfl) ?hy21 hS2 ?rest21
    case hy21 => (intro w0 hSw; obtain ⟨s0, s1, s2, s3, s4, s5, s6, s7⟩ := hSw; first | (go_simp; done) | (go_simp; with_reducible rfl))
    simp only [List.setIfInBounds_toArray, List.set_cons_zero, List.set_cons_succ]
    refine takeD 13 (i := 9) (v := ?v22) rfl rfl (by kernel_rfl) (by kernel_rfl) (by kernel_rfl) (fun _ _ _ h => h) (by kernel_rfl) ?hy22 hS2 ?rest22
    case hy22 => (intro w0 hSw; obtain ⟨s0, s1, s2, s3, s4, s5, s6, s7⟩ := hSw; first | (go_simp; done) | (go_simp; with_reducible rfl))
    simp only [List.setIfInBounds_toArray, List.set_cons_zero, List.set_cons_succ]
    refine takeD 14 (i := 10) (v := ?v23) rfl rfl (by kernel_rfl) (by kernel_rfl) (by kernel_rfl) (fun _ _ _ h => h) (by kernel_rfl) ?hy23 hS2 ?rest23
    case hy23 => (intro w0 hSw; obtain ⟨s0, s1, s2, s3, s4, s5, s6, s7⟩ := hSw; first | (go_simp; done) | (go_simp; with_reducible rfl))
    simp only [List.setIfInBounds_toArray, List.set_cons_zero, List.set_cons_succ]
    refine takeD 15 (i := 11) (v := ?v24) rfl rfl (by kernel_rfl) (by kernel_rfl) (by kernel_rfl) (fun _ _ _ h => h) (by kernel_rfl) ?hy24 hS2 ?rest24
    case hy24 => (intro w0 hSw; obtain ⟨s0, s1, s2, s3, s4, s5, s6, s7⟩ := hSw; first | (go_simp; done) | (go_simp; with_reducible rfl))
    simp only [List.setIfInBounds_toArray, List.set_cons_zero, List.set_cons_succ]
    refine onlyD 16 (i := 12) rfl rfl (by kernel_rfl) (by kernel_rfl) (fun K hK => ?_)
    go_simp
    go_at_call 45
    refine (HEA.out _ q c x.args _ HA.out (HE.out.bel ((((Bel.refl W9).drew).trans hb11).trans hb12)) HLE.out).mono ?_
    rintro e whb13 ⟨rfl, hb13⟩
    have hS3 := HKEEP.out _ (((((Bel.refl W9).drew).trans hb11).trans hb12).trans hb13)
    refine hK.out _ _ hS3 (fun _ => ?_)
    clear hK K
    simp only [List.setIfInBounds_toArray, List.set_cons_zero, List.set_cons_succ]
    refine takeD 17 (i := 13) (v := ?v25) rfl rfl (by kernel_rfl) (by kernel_rfl) (by kernel_rfl) (fun _ _ _ h => h) (by kernel_rfl) ?hy25 hS3 ?rest25
    case hy25 => (intro w0 hSw; obtain ⟨s0, s1, s2, s3, s4, s5, s6, s7⟩ := hSw; first | (go_simp; done) | (go_simp; with_reducible rfl))
    simp only [List.setIfInBounds_toArray, List.set_cons_zero, List.set_cons_succ]
    refine takeD 18 (i := 14) (v := ?v26) rfl rfl (by kernel_rfl) (by kernel_rfl) (by kernel_rfl) (fun _ _ _ h => h) (by kernel_rfl) ?hy26 hS3 ?rest26
    case hy26 => (intro w0 hSw; obtain ⟨s0, s1, s2, s3, s4, s5, s6, s7⟩ := hSw; first | (go_simp; done) | (go_simp; with_reducible rfl))
    simp only [List.setIfInBounds_toArray, List.set_cons_zero, List.set_cons_succ]
    refine skipD 19 (i := 15) rfl rfl (by kernel_rfl) (by kernel_rfl) (by kernel_rfl) (fun _ _ _ h => h) (by kernel_rfl) hS3 ?_
    simp only [List.setIfInBounds_toArray, List.set_cons_zero, List.set_cons_succ]
    refine skipD 20 (i := 16) rfl rfl (by kernel_rfl) (by kernel_rfl) (by kernel_rfl) (fun _ _ _ h => h) (by kernel_rfl) hS3 ?_
    simp only [List.setIfInBounds_toArray, List.set_cons_zero, List.set_cons_succ]
    refine skipD 21 (i := 17) rfl rfl (by kernel_rfl) (by kernel_rfl) (by kernel_rfl) (fun _ _ _ h => h) (by kernel_rfl) hS3 ?_
    simp only [List.setIfInBounds_toArray, List.set_cons_zero, List.set_cons_succ]
    refine skipD 22 (i := 18) rfl rfl (by kernel_rfl) (by kernel_rfl) (by kernel_rfl) (fun _ _ _ h => h) (by kernel_rfl) hS3 ?_
    simp only [List.setIfInBounds_toArray, List.set_cons_zero, List.set_cons_succ]
    refine skipD 23 (i := 19) rfl rfl (by kernel_rfl) (by kernel_rfl) (by kernel_rfl) (fun _ _ _ h => h) (by kernel_rfl) hS3 ?_
    simp only [List.setIfInBounds_toArray, List.set_cons_zero, List.set_cons_succ]
    refine takeD 24 (i := 20) (v := ?v27) rfl rfl (by kernel_rfl) (by kernel_rfl) (by kernel_rfl) (fun _ _ _ h => h) (by kernel_rfl) ?hy27 hS3 ?rest27
    case hy27 => (intro w0 hSw; obtain ⟨s0, s1, s2, s3, s4, s5, s6, s7⟩ := hSw; first | (go_simp; done) | (go_simp; with_reducible rfl))
    simp only [List.setIfInBounds_toArray, List.set_cons_zero, List.set_cons_succ]
    refine takeD 25 (i := 21) (v := ?v28) rfl rfl (by kernel_rfl) (by kernel_rfl) (by kernel_rfl) (fun _ _ _ h => h) (by kernel_rfl) ?hy28 hS3 ?rest28
    case hy28 => (intro w0 hSw; obtain ⟨s0, s1, s2, s3, s4, s5, s6, s7⟩ := hSw; first | (go_simp; done) | (go_simp; with_reducible rfl))
    simp only [List.setIfInBounds_toArray, List.set_cons_zero, List.set_cons_succ]
    refine skipD 26 (i := 22) rfl rfl (by kernel_rfl) (by kernel_rfl) (by kernel_rfl) (fun _ _ _ h => h) (by kernel_rfl) hS3 ?_
    simp only [List.setIfInBounds_toArray, List.set_cons_zero, List.set_cons_succ]
    refine skipD 27 (i := 23) rfl rfl (by kernel_rfl) (by kernel_rfl) (by kernel_rfl) (fun _ _ _ h => h) (by kernel_rfl) hS3 ?_
    simp only [List.setIfInBounds_toArray, List.set_cons_zero, List.set_cons_succ]
    refine skipD 28 (i := 24) rfl rfl (by kernel_rfl) (by kernel_rfl) (by kernel_rfl) (fun _ _ _ h => h) (by kernel_rfl) hS3 ?_
    simp only [List.setIfInBounds_toArray, List.set_cons_zero, List.set_cons_succ]
    refine skipD 29 (i := 25) rfl rfl (by kernel_rfl) (by kernel_rfl) (by kernel_rfl) (fun _ _ _ h => h) (by kernel_rfl) hS3 ?_
    simp only [List.setIfInBounds_toArray, List.set_cons_zero, List.set_cons_succ]
    refine skipD 30 (i := 26) rfl rfl (by kernel_rfl) (by kernel_rfl) (by kernel_rfl) (fun _ _ _ h => h) (by kernel_rfl) hS3 ?_
    simp only [List.setIfInBounds_toArray, List.set_cons_zero, List.set_cons_succ]
    refine takeD 31 (i := 27) (v := ?v29) rfl rfl (by kernel_rfl) (by kernel_rfl) (by kernel_rfl) (fun _ _ _ h => h) (by kernel_rfl) ?hy29 hS3 ?rest29
    case hy29 => (intro w0 hSw; obtain ⟨s0, s1, s2, s3, s4, s5, s6, s7⟩ := hSw; first | (go_simp; done) | (go_simp; with_reducible rfl))
    simp only [List.setIfInBounds_toArray, List.set_cons_zero, List.set_cons_succ]
    refine takeD 3 (i := 28) (v := ?v30) rfl rfl (by kernel_rfl) (by kernel_rfl) (by kernel_rfl) (fun _ _ _ h => h) (by kernel_rfl) ?hy30 hS3 ?rest30
    case hy30 => (intro w0 hSw; obtain ⟨s0, s1, s2, s3, s4, s5, s6, s7⟩ := hSw; first | (go_simp; done) | (go_simp; with_reducible rfl))
    simp only [List.setIfInBounds_toArray, List.set_cons_zero, List.set_cons_succ]
    refine wpAnyH_done (by kernel_rfl) ?_ _
    have HB := Lib.hid (HB.out.trans (((((Bel.refl W9).drew).trans hb11).trans hb12).trans hb13))
    clear hb11 hb12 hb13 hS0 hS1 hS2 hS3
    go_wp2
    go_ret
    exact ⟨rb (by rw [HV.out]; rfl), HB.out⟩
  · refine wp_region_held_drew (S := (SS g9 Bd q c q1 c1 q2 c2 x ((k : Int) + 1))) (by kernel_rfl) (HKEEP.out _ ((Bel.refl W9).drew)) (fun hS0 => ?_)
    refine takeD 4 (i := 0) (v := ?v31) rfl rfl (by kernel_rfl) (by kernel_rfl) (by kernel_rfl) (fun _ _ _ h => h) (by kernel_rfl) ?hy31 hS0 ?rest31
    case hy31 => (intro w0 hSw; obtain ⟨s0, s1, s2, s3, s4, s5, s6, s7⟩ := hSw; first | (go_simp; done) | (go_simp; with_reducible rfl))
    simp only [List.setIfInBounds_toArray, List.set_cons_zero, List.set_cons_succ]
    refine takeD 5 (i := 1) (v := ?v32) rfl rfl (by kernel_rfl) (by kernel_rfl) (by kernel_rfl) (fun _ _ _ h => h) (by kernel_rfl) ?hy32 hS0 ?rest32
    case hy32 => (intro w0 hSw; obtain ⟨s0, s1, s2, s3, s4, s5, s6, s7⟩ := hSw; first | (go_simp; done) | (go_simp; with_reducible rfl))
    simp only [List.setIfInBounds_toArray, List.set_cons_zero, List.set_cons_succ]
    refine takeD 6 (i := 2) (v := ?v33) rfl rfl (by kernel_rfl) (by kernel_rfl) (by kernel_rfl) (fun _ _ _ h => h) (by kernel_rfl) ?hy33 hS0 ?rest33
    case hy33 => (intro w0 hSw; obtain ⟨s0, s1, s2, s3, s4, s5, s6, s7⟩ := hSw; first | (go_simp; done) | (go_simp; with_reducible rfl))
    simp only [List.setIfInBounds_toArray, List.set_cons_zero, List.set_cons_succ]
    refine takeD 7 (i := 3) (v := ?v34) rfl rfl (by kernel_rfl) (by kernel_rfl) (by kernel_rfl) (fun _ _ _ h => h) (by kernel_rfl) ?hy34 hS0 ?rest34
    case hy34 => (intro w0 hSw; obtain ⟨s0, s1, s2, s3, s4, s5, s6, s7⟩ := hSw; first | (go_simp; done) | (go_simp; with_reducible rfl))
    simp only [List.setIfInBounds_toArray, List.set_cons_zero, List.set_cons_succ]
    refine takeD 8 (i := 4) (v := ?v35) rfl rfl (by kernel_rfl) (by kernel_rfl) (by kernel_rfl) (fun _ _ _ h => h) (by kernel_rfl) ?hy35 hS0 ?rest35
    case hy35 => (intro w0 hSw; obtain ⟨s0, s1, s2, s3, s4, s5, s6, s7⟩ := hSw; first | (go_simp; done) | (go_simp; with_reducible rfl))
    simp only [List.setIfInBounds_toArray, List.set_cons_zero, List.set_cons_succ]
    refine takeD 10 (i := 6) (v := ?v36) rfl rfl (by kernel_rfl) (by kernel_rfl) (by kernel_rfl) (fun _ _ _ h => h) (by kernel_rfl) ?hy36 hS0 ?rest36
    case hy36 => (intro w0 hSw; obtain ⟨s0, s1, s2, s3, s4, s5, s6, s7⟩ := hSw; first | (go_simp; done) | (go_simp; with_reducible rfl))
    simp only [List.setIfInBounds_toArray, List.set_cons_zero, List.set_cons_succ]
    refine onlyD 9 (i := 5) rfl rfl (by kernel_rfl) (by kernel_rfl) (fun K hK => ?_)
    go_simp
    go_at_call 99
    refine (sShape_lit HSH.out _).mono ?_
    rintro e whb11 ⟨rfl, hb11⟩
    have hS1 := HKEEP.out _ (((Bel.refl W9).drew).trans hb11)
    refine hK.out _ _ hS1 (fun _ => ?_)
    clear hK K
    simp only [List.setIfInBounds_toArray, List.set_cons_zero, List.set_cons_succ]
    refine onlyD 11 (i := 7) rfl rfl (by kernel_rfl) (by kernel_rfl) (fun K hK => ?_)
    go_simp
    go_at_call 100
    refine (fitsS_lit (q := q) (c := c) (q1 := q1) (c1 := c1) (q2 := q2) (c2 := c2) HF.out HW.out _).mono ?_
    rintro e whb12 ⟨rfl, hb12⟩
    have hS2 := HKEEP.out _ ((((Bel.refl W9).drew).trans hb11).trans hb12)
    refine hK.out _ _ hS2 (fun _ => ?_)
    clear hK K
    simp only [List.setIfInBounds_toArray, List.set_cons_zero, List.set_cons_succ]
    refine takeD 12 (i := 8) (v := ?v37) rfl rfl (by kernel_rfl) (by kernel_rfl) (by kernel_rfl) (fun _ _ _ h => h) (by kernel_rfl) ?hy37 hS2 ?rest37
    case hy37 => (intro w0 hSw; obtain ⟨s0, s1, s2, s3, s4, s5, s6, s7⟩ := hSw; first | (go_simp; done) | (go_simp; with_reducible rfl))
    simp only [List.setIfInBounds_toArray, List.set_cons_zero, List.set_cons_succ]
    refine takeD 13 (i := 9) (v := ?v38) rfl rfl (by kernel_rfl) (by kernel_rfl) (by kernel_rfl) (fun _ _ _ h => h) (by kernel_rfl) ?hy38 hS2 ?rest38
    case hy38 => (intro w0 hSw; obtain ⟨s0, s1, s2, s3, s4, s5, s6, s7⟩ := hSw; first | (go_simp; done) | (go_simp; with_reducible rfl))
    simp only [List.setIfInBounds_toArray, List.set_cons_zero, List.set_cons_succ]
    refine takeD 14 (i := 10) (v := ?v39) rfl rfl (by kernel_rfl) (by kernel_rfl) (by kernel_rfl) (fun _ _ _ h => h) (by kernel_rfl) ?hy39 hS2 ?rest39
    case hy39 => (intro w0 hSw; obtain ⟨s0, s1, s2, s3, s4, s5, s6, s7⟩ := hSw; first | (go_simp; done) | (go_simp; with_reducible rfl))
    simp only [List.setIfInBounds_toArray, List.set_cons_zero, List.set_cons_succ]
    refine takeD 15 (i := 11) (v := ?v40) rfl rfl (by kernel_rfl) (by kernel_rfl) (by kernel_rfl) (fun _ _ _ h => h) (by kernel_rfl) ?hy40 hS2 ?rest40
    case hy40 => (intro w0 hSw; obtain ⟨s0, s1, s2, s3, s4, s5, s6, s7⟩ := hSw; first | (go_simp; done) | (go_simp; with_reducible rfl))
    simp only [List.setIfInBounds_toArray, List.set_cons_zero, List.set_cons_succ]
    refine onlyD 16 (i := 12) rfl rfl (by kernel_rfl) (by kernel_rfl) (fun K hK => ?_)
    go_simp
    go_at_call 45
    refine (HEA.out _ q c x.args _ HA.out (HE.out.bel ((((Bel.refl W9).drew).trans hb11).trans hb12)) HLE.out).mono ?_
    rintro e whb13 ⟨rfl, hb13⟩
    have hS3 := HKEEP.out _ (((((Bel.refl W9).drew).trans hb11).trans hb12).trans hb13)
    refine hK.out _ _ hS3 (fun _ => ?_)
    clear hK K
    simp only [List.setIfInBounds_toArray, List.set_cons_zero, List.set_cons_succ]
    refine takeD 17 (i := 13) (v := ?v41) rfl rfl (by kernel_rfl) (by kernel_rfl) (by kernel_rfl) (fun _ _ _ h => h) (by kernel_rfl) ?hy41 hS3 ?rest41
    case hy41 => (intro w0 hSw; obtain ⟨s0, s1, s2, s3, s4, s5, s6, s7⟩ := hSw; first | (go_simp; done) | (go_simp; with_reducible rfl))
    simp only [List.setIfInBounds_toArray, List.set_cons_zero, List.set_cons_succ]
    refine takeD 18 (i := 14) (v := ?v42) rfl rfl (by kernel_rfl) (by kernel_rfl) (by kernel_rfl) (fun _ _ _ h => h) (by kernel_rfl) ?hy42 hS3 ?rest42
    case hy42 => (intro w0 hSw; obtain ⟨s0, s1, s2, s3, s4, s5, s6, s7⟩ := hSw; first | (go_simp; done) | (go_simp; with_reducible rfl))
    simp only [List.setIfInBounds_toArray, List.set_cons_zero, List.set_cons_succ]
    refine takeD 19 (i := 15) (v := ?v43) rfl rfl (by kernel_rfl) (by kernel_rfl) (by kernel_rfl) (fun _ _ _ h => h) (by kernel_rfl) ?hy43 hS3 ?rest43
    case hy43 => (intro w0 hSw; obtain ⟨s0, s1, s2, s3, s4, s5, s6, s7⟩ := hSw; first | (go_simp; done) | (go_simp; with_reducible rfl))
    simp only [List.setIfInBounds_toArray, List.set_cons_zero, List.set_cons_succ]
    refine takeD 20 (i := 16) (v := ?v44) rfl rfl (by kernel_rfl) (by kernel_rfl) (by kernel_rfl) (fun _ _ _ h => h) (by kernel_rfl) ?hy44 hS3 ?rest44
    case hy44 => (intro w0 hSw; obtain ⟨s0, s1, s2, s3, s4, s5, s6, s7⟩ := hSw; first | (go_simp; done) | (go_simp; with_reducible rfl))
    simp only [List.setIfInBounds_toArray, List.set_cons_zero, List.set_cons_succ]
    refine takeD 21 (i := 17) (v := ?v45) rfl rfl (by kernel_rfl) (by kernel_rfl) (by kernel_rfl) (fun _ _ _ h => h) (by kernel_rfl) ?hy45 hS3 ?rest45
    case hy45 => (intro w0 hSw; obtain ⟨s0, s1, s2, s3, s4, s5, s6, s7⟩ := hSw; first | (go_simp; done) | (go_simp; with_reducible rfl))
    simp only [List.setIfInBounds_toArray, List.set_cons_zero, List.set_cons_succ]
    refine takeD 22 (i := 18) (v := ?v46) rfl rfl (by kernel_rfl) (by kernel_rfl) (by kernel_rfl) (fun _ _ _ h => h) (by kernel_rfl) ?hy46 hS3 ?rest46
    case hy46 => (intro w0 hSw; obtain ⟨s0, s1, s2, s3, s4, s5, s6, s7⟩ := hSw; first | (go_simp; done) | (go_simp; with_reducible rfl))
    simp only [List.setIfInBounds_toArray, List.set_cons_zero, List.set_cons_succ]
    refine onlyD 23 (i := 19) rfl rfl (by kernel_rfl) (by kernel_rfl) (fun K hK => ?_)
    go_simp
    go_at_call 63
    refine (HIH.out _ q1 c1 x.thn _ HA3.out (HT.out.bel (((((Bel.refl W9).drew).trans hb11).trans hb12).trans hb13)) HLT.out).mono ?_
    rintro e whb14 ⟨rfl, hb14⟩
    have hS4 := HKEEP.out _ ((((((Bel.refl W9).drew).trans hb11).trans hb12).trans hb13).trans hb14)
    refine hK.out _ _ hS4 (fun _ => ?_)
    clear hK K
    simp only [List.setIfInBounds_toArray, List.set_cons_zero, List.set_cons_succ]
    refine takeD 24 (i := 20) (v := ?v47) rfl rfl (by kernel_rfl) (by kernel_rfl) (by kernel_rfl) (fun _ _ _ h => h) (by kernel_rfl) ?hy47 hS4 ?rest47
    case hy47 => (intro w0 hSw; obtain ⟨s0, s1, s2, s3, s4, s5, s6, s7⟩ := hSw; first | (go_simp; done) | (go_simp; with_reducible rfl))
    simp only [List.setIfInBounds_toArray, List.set_cons_zero, List.set_cons_succ]
    refine takeD 25 (i := 21) (v := ?v48) rfl rfl (by kernel_rfl) (by kernel_rfl) (by kernel_rfl) (fun _ _ _ h => h) (by kernel_rfl) ?hy48 hS4 ?rest48
    case hy48 => (intro w0 hSw; obtain ⟨s0, s1, s2, s3, s4, s5, s6, s7⟩ := hSw; first | (go_simp; done) | (go_simp; with_reducible rfl))
    simp only [List.setIfInBounds_toArray, List.set_cons_zero, List.set_cons_succ]
    refine skipD 26 (i := 22) rfl rfl (by kernel_rfl) (by kernel_rfl) (by kernel_rfl) (fun _ _ _ h => h) (by kernel_rfl) hS4 ?_
    simp only [List.setIfInBounds_toArray, List.set_cons_zero, List.set_cons_succ]
    refine skipD 27 (i := 23) rfl rfl (by kernel_rfl) (by kernel_rfl) (by kernel_rfl) (fun _ _ _ h => h) (by kernel_rfl) hS4 ?_
    simp only [List.setIfInBounds_toArray, List.set_cons_zero, List.set_cons_succ]
    refine skipD 28 (i := 24) rfl rfl (by kernel_rfl) (by kernel_rfl) (by kernel_rfl) (fun _ _ _ h => h) (by kernel_rfl) hS4 ?_
    simp only [List.setIfInBounds_toArray, List.set_cons_zero, List.set_cons_succ]
    refine skipD 29 (i := 25) rfl rfl (by kernel_rfl) (by kernel_rfl) (by kernel_rfl) (fun _ _ _ h => h) (by kernel_rfl) hS4 ?_
    simp only [List.setIfInBounds_toArray, List.set_cons_zero, List.set_cons_succ]
    refine skipD 30 (i := 26) rfl rfl (by kernel_rfl) (by kernel_rfl) (by kernel_rfl) (fun _ _ _ h => h) (by kernel_rfl) hS4 ?_
    simp only [List.setIfInBounds_toArray, List.set_cons_zero, List.set_cons_succ]
    refine takeD 31 (i := 27) (v := ?v49) rfl rfl (by kernel_rfl) (by kernel_rfl) (by kernel_rfl) (fun _ _ _ h => h) (by kernel_rfl) ?hy49 hS4 ?rest49
    case hy49 => (intro w0 hSw; obtain ⟨s0, s1, s2, s3, s4, s5, s6, s7⟩ := hSw; first | (go_simp; done) | (go_simp; with_reducible rfl))
    simp only [List.setIfInBounds_toArray, List.set_cons_zero, List.set_cons_succ]
    refine takeD 3 (i := 28) (v := ?v50) rfl rfl (by kernel_rfl) (by kernel_rfl) (by kernel_rfl) (fun _ _ _ h => h) (by kernel_rfl) ?hy50 hS4 ?rest50
    case hy50 => (intro w0 hSw; obtain ⟨s0, s1, s2, s3, s4, s5, s6, s7⟩ := hSw; first | (go_simp; done) | (go_simp; with_reducible rfl))
    simp only [List.setIfInBounds_toArray, List.set_cons_zero, List.set_cons_succ]
    refine wpAnyH_done (by kernel_rfl) ?_ _
    have HB := Lib.hid (HB.out.trans ((((((Bel.refl W9).drew).trans hb11).trans hb12).trans hb13).trans hb14))
    clear hb11 hb12 hb13 hb14 hS0 hS1 hS2 hS3 hS4
    go_wp2
    go_ret
    exact ⟨rb (by rw [HV.out]; rfl), HB.out⟩
  · refine wp_region_held_drew (S := (SS g9 Bd q c q1 c1 q2 c2 x ((k : Int) + 1))) (by kernel_rfl) (HKEEP.out _ ((Bel.refl W9).drew)) (fun hS0 => ?_)
    refine takeD 4 (i := 0) (v := ?v51) rfl rfl (by kernel_rfl) (by kernel_rfl) (by kernel_rfl) (fun _ _ _ h => h) (by kernel_rfl) ?hy51 hS0 ?rest51
    case hy51 => (intro w0 hSw; obtain ⟨s0, s1, s2, s3, s4, s5, s6, s7⟩ := hSw; first | (go_simp; done) | (go_simp; with_reducible rfl))
    simp only [List.setIfInBounds_toArray, List.set_cons_zero, List.set_cons_succ]
    refine takeD 5 (i := 1) (v := ?v52) rfl rfl (by kernel_rfl) (by kernel_rfl) (by kernel_rfl) (fun _ _ _ h => h) (by kernel_rfl) ?hy52 hS0 ?rest52
    case hy52 => (intro w0 hSw; obtain ⟨s0, s1, s2, s3, s4, s5, s6, s7⟩ := hSw; first | (go_simp; done) | (go_simp; with_reducible rfl))
    simp only [List.setIfInBounds_toArray, List.set_cons_zero, List.set_cons_succ]
    refine takeD 6 (i := 2) (v := ?v53) rfl rfl (by kernel_rfl) (by kernel_rfl) (by kernel_rfl) (fun _ _ _ h => h) (by kernel_rfl) ?hy53 hS0 ?rest53
    case hy53 => (intro w0 hSw; obtain ⟨s0, s1, s2, s3, s4, s5, s6, s7⟩ := hSw; first | (go_simp; done) | (go_simp; with_reducible rfl))
    simp only [List.setIfInBounds_toArray, List.set_cons_zero, List.set_cons_succ]
    refine takeD 7 (i := 3) (v := ?v54) rfl rfl (by kernel_rfl) (by kernel_rfl) (by kernel_rfl) (fun _ _ _ h => h) (by kernel_rfl) ?hy54 hS0 ?rest54
    case hy54 => (intro w0 hSw; obtain ⟨s0, s1, s2, s3, s4, s5, s6, s7⟩ := hSw; first | (go_simp; done) | (go_simp; with_reducible rfl))
    simp only [List.setIfInBounds_toArray, List.set_cons_zero, List.set_cons_succ]
    refine takeD 8 (i := 4) (v := ?v55) rfl rfl (by kernel_rfl) (by kernel_rfl) (by kernel_rfl) (fun _ _ _ h => h) (by kernel_rfl) ?hy55 hS0 ?rest55
    case hy55 => (intro w0 hSw; obtain ⟨s0, s1, s2, s3, s4, s5, s6, s7⟩ := hSw; first | (go_simp; done) | (go_simp; with_reducible rfl))
    simp only [List.setIfInBounds_toArray, List.set_cons_zero, List.set_cons_succ]
    refine takeD 10 (i := 6) (v := ?v56) rfl rfl (by kernel_rfl) (by kernel_rfl) (by kernel_rfl) (fun _ _ _ h => h) (by kernel_rfl) ?hy56 hS0 ?rest56
    case hy56 => (intro w0 hSw; obtain ⟨s0, s1, s2, s3, s4, s5, s6, s7⟩ := hSw; first | (go_simp; done) | (go_simp; with_reducible rfl))
    simp only [List.setIfInBounds_toArray, List.set_cons_zero, List.set_cons_succ]
    refine onlyD 9 (i := 5) rfl rfl (by kernel_rfl) (by kernel_rfl) (fun K hK => ?_)
    go_simp
    go_at_call 99
    refine (sShape_lit HSH.out _).mono ?_
    rintro e whb11 ⟨rfl, hb11⟩
    have hS1 := HKEEP.out _ (((Bel.refl W9).drew).trans hb11)
    refine hK.out _ _ hS1 (fun _ => ?_)
    clear hK K
    simp only [List.setIfInBounds_toArray, List.set_cons_zero, List.set_cons_succ]
    refine onlyD 11 (i := 7) rfl rfl (by kernel_rfl) (by kernel_rfl) (fun K hK => ?_)
    go_simp
    go_at_call 100
    refine (fitsS_lit (q := q) (c := c) (q1 := q1) (c1 := c1) (q2 := q2) (c2 := c2) HF.out HW.out _).mono ?_
    rintro e whb12 ⟨rfl, hb12⟩
    have hS2 := HKEEP.out _ ((((Bel.refl W9).drew).trans hb11).trans hb12)
    refine hK.out _ _ hS2 (fun _ => ?_)
    clear hK K
    simp only [List.setIfInBounds_toArray, List.set_cons_zero, List.set_cons_succ]
    refine takeD 12 (i := 8) (v := ?v57) rfl rfl (by kernel_rfl) (by kernel_rfl) (by kernel_rfl) (fun _ _ _ h => h) (by kernel_rfl) ?hy57 hS2 ?rest57
    case hy57 => (intro w0 hSw; obtain ⟨s0, s1, s2, s3, s4, s5, s6, s7⟩ := hSw; first | (go_simp; done) | (go_simp; with_reducible rfl))
    simp only [List.setIfInBounds_toArray, List.set_cons_zero, List.set_cons_succ]
    refine takeD 13 (i := 9) (v := ?v58) rfl rfl (by kernel_rfl) (by kernel_rfl) (by kernel_rfl) (fun _ _ _ h => h) (by kernel_rfl) ?hy58 hS2 ?rest58
    case hy58 => (intro w0 hSw; obtain ⟨s0, s1, s2, s3, s4, s5, s6, s7⟩ := hSw; first | (go_simp; done) | (go_simp; with_reducible rfl))
    simp only [List.setIfInBounds_toArray, List.set_cons_zero, List.set_cons_succ]
    refine takeD 14 (i := 10) (v := ?v59) rfl rfl (by kernel_rfl) (by kernel_rfl) (by kernel_rfl) (fun _ _ _ h => h) (by kernel_rfl) ?hy59 hS2 ?rest59
    case hy59 => (intro w0 hSw; obtain ⟨s0, s1, s2, s3, s4, s5, s6, s7⟩ := hSw; first | (go_simp; done) | (go_simp; with_reducible rfl))
    simp only [List.setIfInBounds_toArray, List.set_cons_zero, List.set_cons_succ]
    refine takeD 15 (i := 11) (v := ?v60) rfl rfl (by kernel_rfl) (by kernel_rfl) (by kernel_rfl) (fun _ _ _ h => h) (by kernel_rfl) ?hy60 hS2 ?rest60
    case hy60 => (intro w0 hSw; obtain ⟨s0, s1, s2, s3, s4, s5, s6, s7⟩ := hSw; first | (go_simp; done) | (go_simp; with_reducible rfl))
    simp only [List.setIfInBounds_toArray, List.set_cons_zero, List.set_cons_succ]
    refine onlyD 16 (i := 12) rfl rfl (by kernel_rfl) (by kernel_rfl) (fun K hK => ?_)
    go_simp
    go_at_call 45
    refine (HEA.out _ q c x.args _ HA.out (HE.out.bel ((((Bel.refl W9).drew).trans hb11).trans hb12)) HLE.out).mono ?_
    rintro e whb13 ⟨rfl, hb13⟩
    have hS3 := HKEEP.out _ (((((Bel.refl W9).drew).trans hb11).trans hb12).trans hb13)
    refine hK.out _ _ hS3 (fun _ => ?_)
    clear hK K
    simp only [List.setIfInBounds_toArray, List.set_cons_zero, List.set_cons_succ]
    refine takeD 17 (i := 13) (v := ?v61) rfl rfl (by kernel_rfl) (by kernel_rfl) (by kernel_rfl) (fun _ _ _ h => h) (by kernel_rfl) ?hy61 hS3 ?rest61
    case hy61 => (intro w0 hSw; obtain ⟨s0, s1, s2, s3, s4, s5, s6, s7⟩ := hSw; first | (go_simp; done) | (go_simp; with_reducible rfl))
    simp only [List.setIfInBounds_toArray, List.set_cons_zero, List.set_cons_succ]
    refine takeD 18 (i := 14) (v := ?v62) rfl rfl (by kernel_rfl) (by kernel_rfl) (by kernel_rfl) (fun _ _ _ h => h) (by kernel_rfl) ?hy62 hS3 ?rest62
    case hy62 => (intro w0 hSw; obtain ⟨s0, s1, s2, s3, s4, s5, s6, s7⟩ := hSw; first | (go_simp; done) | (go_simp; with_reducible rfl))
    simp only [List.setIfInBounds_toArray, List.set_cons_zero, List.set_cons_succ]
    refine takeD 19 (i := 15) (v := ?v63) rfl rfl (by kernel_rfl) (by kernel_rfl) (by kernel_rfl) (fun _ _ _ h => h) (by kernel_rfl) ?hy63 hS3 ?rest63
    case hy63 => (intro w0 hSw; obtain ⟨s0, s1, s2, s3, s4, s5, s6, s7⟩ := hSw; first | (go_simp; done) | (go_simp; with_reducible rfl))
    simp only [List.setIfInBounds_toArray, List.set_cons_zero, List.set_cons_succ]
    refine takeD 20 (i := 16) (v := ?v64) rfl rfl (by kernel_rfl) (by kernel_rfl) (by kernel_rfl) (fun _ _ _ h => h) (by kernel_rfl) ?hy64 hS3 ?rest64
    case hy64 => (intro w0 hSw; obtain ⟨s0, s1, s2, s3, s4, s5, s6, s7⟩ := hSw; first | (go_simp; done) | (go_simp; with_reducible rfl))
    simp only [List.setIfInBounds_toArray, List.set_cons_zero, List.set_cons_succ]
    refine takeD 21 (i := 17) (v := ?v65) rfl rfl (by kernel_rfl) (by kernel_rfl) (by kernel_rfl) (fun _ _ _ h => h) (by kernel_rfl) ?hy65 hS3 ?rest65
    case hy65 => (intro w0 hSw; obtain ⟨s0, s1, s2, s3, s4, s5, s6, s7⟩ := hSw; first | (go_simp; done) | (go_simp; with_reducible rfl))
    simp only [List.setIfInBounds_toArray, List.set_cons_zero, List.set_cons_succ]
    refine takeD 22 (i := 18) (v := ?v66) rfl rfl (by kernel_rfl) (by kernel_rfl) (by kernel_rfl) (fun _ _ _ h => h) (by kernel_rfl) ?hy66 hS3 ?rest66
    case hy66 => (intro w0 hSw; obtain ⟨s0, s1, s2, s3, s4, s5, s6, s7⟩ := hSw; first | (go_simp; done) | (go_simp; with_reducible rfl))
    simp only [List.setIfInBounds_toArray, List.set_cons_zero, List.set_cons_succ]
    refine onlyD 23 (i := 19) rfl rfl (by kernel_rfl) (by kernel_rfl) (fun K hK => ?_)
    go_simp
    go_at_call 63
    refine (HIH.out _ q1 c1 x.thn _ HA3.out (HT.out.bel (((((Bel.refl W9).drew).trans hb11).trans hb12).trans hb13)) HLT.out).mono ?_
    rintro e whb14 ⟨rfl, hb14⟩
    have hS4 := HKEEP.out _ ((((((Bel.refl W9).drew).trans hb11).trans hb12).trans hb13).trans hb14)
    refine hK.out _ _ hS4 (fun _ => ?_)
    clear hK K
    simp only [List.setIfInBounds_toArray, List.set_cons_zero, List.set_cons_succ]
    refine takeD 24 (i := 20) (v := ?v67) rfl rfl (by kernel_rfl) (by kernel_rfl) (by kernel_rfl) (fun _ _ _ h => h) (by kernel_rfl) ?hy67 hS4 ?rest67
    case hy67 => (intro w0 hSw; obtain ⟨s0, s1, s2, s3, s4, s5, s6, s7⟩ := hSw; first | (go_simp; done) | (go_simp; with_reducible rfl))
    simp only [List.setIfInBounds_toArray, List.set_cons_zero, List.set_cons_succ]
    refine takeD 25 (i := 21) (v := ?v68) rfl rfl (by kernel_rfl) (by kernel_rfl) (by kernel_rfl) (fun _ _ _ h => h) (by kernel_rfl) ?hy68 hS4 ?rest68
    case hy68 => (intro w0 hSw; obtain ⟨s0, s1, s2, s3, s4, s5, s6, s7⟩ := hSw; first | (go_simp; done) | (go_simp; with_reducible rfl))
    simp only [List.setIfInBounds_toArray, List.set_cons_zero, List.set_cons_succ]
    refine takeD 26 (i := 22) (v := ?v69) rfl rfl (by kernel_rfl) (by kernel_rfl) (by kernel_rfl) (fun _ _ _ h => h) (by kernel_rfl) ?hy69 hS4 ?rest69
    case hy69 => (intro w0 hSw; obtain ⟨s0, s1, s2, s3, s4, s5, s6, s7⟩ := hSw; first | (go_simp; done) | (go_simp; with_reducible rfl))
    simp only [List.setIfInBounds_toArray, List.set_cons_zero, List.set_cons_succ]
    refine takeD 27 (i := 23) (v := ?v70) rfl rfl (by kernel_rfl) (by kernel_rfl) (by kernel_rfl) (fun _ _ _ h => h) (by kernel_rfl) ?hy70 hS4 ?rest70
    case hy70 => (intro w0 hSw; obtain ⟨s0, s1, s2, s3, s4, s5, s6, s7⟩ := hSw; first | (go_simp; done) | (go_simp; with_reducible rfl))
    simp only [List.setIfInBounds_toArray, List.set_cons_zero, List.set_cons_succ]
    refine takeD 28 (i := 24) (v := ?v71) rfl rfl (by kernel_rfl) (by kernel_rfl) (by kernel_rfl) (fun _ _ _ h => h) (by kernel_rfl) ?hy71 hS4 ?rest71
    case hy71 => (intro w0 hSw; obtain ⟨s0, s1, s2, s3, s4, s5, s6, s7⟩ := hSw; first | (go_simp; done) | (go_simp; with_reducible rfl))
    simp only [List.setIfInBounds_toArray, List.set_cons_zero, List.set_cons_succ]
    refine takeD 29 (i := 25) (v := ?v72) rfl rfl (by kernel_rfl) (by kernel_rfl) (by kernel_rfl) (fun _ _ _ h => h) (by kernel_rfl) ?hy72 hS4 ?rest72
    case hy72 => (intro w0 hSw; obtain ⟨s0, s1, s2, s3, s4, s5, s6, s7⟩ := hSw; first | (go_simp; done) | (go_simp; with_reducible rfl))
    simp only [List.setIfInBounds_toArray, List.set_cons_zero, List.set_cons_succ]
    refine onlyD 30 (i := 26) rfl rfl (by kernel_rfl) (by kernel_rfl) (fun K hK => ?_)
    go_simp
    go_at_call 63
    refine (HIH.out _ q2 c2 x.els _ HA4.out (HL.out.bel ((((((Bel.refl W9).drew).trans hb11).trans hb12).trans hb13).trans hb14)) HLL.out).mono ?_
    rintro e whb15 ⟨rfl, hb15⟩
    have hS5 := HKEEP.out _ (((((((Bel.refl W9).drew).trans hb11).trans hb12).trans hb13).trans hb14).trans hb15)
    refine hK.out _ _ hS5 (fun _ => ?_)
    clear hK K
    simp only [List.setIfInBounds_toArray, List.set_cons_zero, List.set_cons_succ]
    refine takeD 31 (i := 27) (v := ?v73) rfl rfl (by kernel_rfl) (by kernel_rfl) (by kernel_rfl) (fun _ _ _ h => h) (by kernel_rfl) ?hy73 hS5 ?rest73
    case hy73 => (intro w0 hSw; obtain ⟨s0, s1, s2, s3, s4, s5, s6, s7⟩ := hSw; first | (go_simp; done) | (go_simp; with_reducible rfl))
    simp only [List.setIfInBounds_toArray, List.set_cons_zero, List.set_cons_succ]
    refine takeD 3 (i := 28) (v := ?v74) rfl rfl (by kernel_rfl) (by kernel_rfl) (by kernel_rfl) (fun _ _ _ h => h) (by kernel_rfl) ?hy74 hS5 ?rest74
    case hy74 => (intro w0 hSw; obtain ⟨s0, s1, s2, s3, s4, s5, s6, s7⟩ := hSw; first | (go_simp; done) | (go_simp; with_reducible rfl))
    simp only [List.setIfInBounds_toArray, List.set_cons_zero, List.set_cons_succ]
    refine wpAnyH_done (by kernel_rfl) ?_ _
    have HB := Lib.hid (HB.out.trans (((((((Bel.refl W9).drew).trans hb11).trans hb12).trans hb13).trans hb14).trans hb15))
    clear hb11 hb12 hb13 hb14 hb15 hS0 hS1 hS2 hS3 hS4 hS5
    go_wp2
    go_ret
    exact ⟨rb (by rw [HV.out]; rfl), HB.out⟩
set_option maxRecDepth 100000 in
theorem areStmts_any : ∀ d : Nat, d ≤ 1000 → StmtsAt d := by
  intro d
  induction d with
  | zero =>
    intro _ w p c l h hl
    rw [areS_all]
    go_enter Tryz.func63, Tryz.ntmps63
    have hmf : ∀ (fn : Fn) (first cap : Array Value) (w : World), (Instr.makeFunc fn first cap).run Tryz.prog w = .ok (.func fn first cap) w := fun _ _ _ _ => rfl
    go_wp2_with (go_at_call 97; refine (allS_any (p := bodyS 0) (cap := #[.pointer (some ⟨w.heap.size, 0, none⟩)]) _ p c l (h.bel ((Bel.refl w).alloc _ _)) hl (fun x q c q1 c1 q2 c2 w' hb hw hE hT hL => cloS_zero w' (hb.stays (heap_alloc_new w _)))).mono ?_)
    rintro e W2 ⟨rfl, hb⟩
    have HB := Lib.hid (((Bel.refl w).alloc #[.int .i64 0] 3).trans hb)
    go_wp2_with fail
    go_ret
    exact ⟨rfl, HB.out⟩
  | succ k ih =>
    intro hk w p c l h hl
    rw [areS_all]
    have IH := Lib.hid (ih (by omega))
    have hc : ((k + 1 : Nat) : Int) = (k : Int) + 1 := by omega
    rw [hc]
    clear ih hc
    go_enter Tryz.func63, Tryz.ntmps63
    have hmf : ∀ (fn : Fn) (first cap : Array Value) (w : World), (Instr.makeFunc fn first cap).run Tryz.prog w = .ok (.func fn first cap) w := fun _ _ _ _ => rfl
    go_wp2_with (go_at_call 97; refine (allS_any (p := bodyS (k + 1)) (cap := #[.pointer (some ⟨w.heap.size, 0, none⟩)]) _ p c l (h.bel ((Bel.refl w).alloc _ _)) hl (fun x q c q1 c1 q2 c2 w' hb hw hE hT hL => cloS_succ (by omega) IH.out w' hw hE hT hL (hb.stays (heap_alloc_new w _)))).mono ?_)
    rintro e W2 ⟨rfl, hb⟩
    have HB := Lib.hid (((Bel.refl w).alloc #[.int .i64 ((k : Int) + 1)] 3).trans hb)
    go_wp2_with fail
    go_ret
    exact ⟨rfl, HB.out⟩
end Go.Proofs.YthlnjnmomnpnpaaGreatDoor
